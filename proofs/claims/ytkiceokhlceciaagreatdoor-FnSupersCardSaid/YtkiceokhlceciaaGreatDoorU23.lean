/- The laws' marks in a pool: cells of the same kinds, the slices as they were, nothing else turned. -/
import Derived.Deep.DeepCutAuto
import Derived.Test.YtkiceokhlceciaaGreatDoorU09
import Derived.Test.YtkiceokhlceciaaGreatDoorU13
import Derived.Test.YtkiceokhlceciaaGreatDoorU15
set_option maxHeartbeats 20000000
set_option maxRecDepth 100000
namespace Go.Proofs.YtkiceokhlceciaaGreatDoor
section
open Go Go.RowKit Go.BigFrame Tryz
variable{α:Type}{c:Array Value}{d:ByteArray}{B T b j n:Nat}{a:Option Addr}{p:Po}{v x:Value}{w w' w1:World}{l:List α}
theorem aW_ (B0:Nat)(hB0:0<B0)(v:Value)(p:Po)(w:World)(h:AW B0 w v p)(hd:AJ p):
  Calls prog 64 #[v] w fun e w'=>(∃ v',e=.returned v'∧Ag w.heap.size w' v' p∧NnE v')∧Below w.heap.size w w':=by
 obtain⟨ea,en,ec,va,vn,vc,ra,rn,rc,la,ln,lc,rfl,⟨h1,k1⟩,⟨h2,k2⟩,⟨h3,k3⟩,h4,k4⟩:=h;obtain⟨z1,z2,z3,z4,z5,z6,z7,z8⟩:=hd;rw[h1.len] at z1;rw[h2.len] at z3;rw[h3.len] at z5;rw[h4.len] at z7;obtain⟨size,next,ex,vs,rf,lt⟩:=p;simp only at h1 h2 h3 h4 z2 z4 z6 z8;go_enter func64,ntmps64
 go_wp2_with fail
 have C:=(Blk.new w #[.int .i64 size,.int .i64 next,.slice ea en ec,.slice va vn vc,.slice ra rn rc,.slice la ln lc] 28).alloc (.cells #[.int .i64 0,.int .i64 0,.slice none 0 0,.slice none 0 0,.slice none 0 0,.slice none 0 0] 28);have D:Blk ((w.alloc (.cells #[.int .i64 size,.int .i64 next,.slice ea en ec,.slice va vn vc,.slice ra rn rc,.slice la ln lc] 28)).alloc (.cells #[.int .i64 0,.int .i64 0,.slice none 0 0,.slice none 0 0,.slice none 0 0,.slice none 0 0] 28)) (w.heap.size+1) _ _:=Blk.new' _ _ _ _ (by simp);have hC:Below w.heap.size w ((w.alloc (.cells #[.int .i64 size,.int .i64 next,.slice ea en ec,.slice va vn vc,.slice ra rn rc,.slice la ln lc] 28)).alloc (.cells #[.int .i64 0,.int .i64 0,.slice none 0 0,.slice none 0 0,.slice none 0 0,.slice none 0 0] 28)):=by go_grown
 have qu:((w.alloc (.cells #[.int .i64 size,.int .i64 next,.slice ea en ec,.slice va vn vc,.slice ra rn rc,.slice la ln lc] 28)).alloc (.cells #[.int .i64 0,.int .i64 0,.slice none 0 0,.slice none 0 0,.slice none 0 0,.slice none 0 0] 28)).heap.size=w.heap.size+2:=by simp
 generalize (w.alloc (.cells #[.int .i64 size,.int .i64 next,.slice ea en ec,.slice va vn vc,.slice ra rn rc,.slice la ln lc] 28)).alloc (.cells #[.int .i64 0,.int .i64 0,.slice none 0 0,.slice none 0 0,.slice none 0 0,.slice none 0 0] 28)=W at *;obtain⟨c0,c1,c2,c3,c4,c5⟩:=C.six';have hm:∀ u,Below W.heap.size W u->(fun u=>u.cell? ⟨w.heap.size,0,none⟩=some (.int .i64 size)∧u.cell? ⟨w.heap.size,1,none⟩=some (.int .i64 next)∧u.cell? ⟨w.heap.size,2,none⟩=some (.slice ea en ec)∧u.cell? ⟨w.heap.size,4,none⟩=some (.slice ra rn rc)∧u.cell? ⟨w.heap.size,5,none⟩=some (.slice la ln lc)) u:=fun u hu=>⟨Ab hu c0,Ab hu c1,Ab hu c2,Ab hu c4,Ab hu c5⟩;have hN:Below W.heap.size W W.drew:=(Yg _ _).drew;have hU:=hm W.drew hN;refine ar_ (S:=(fun u=>u.cell? ⟨w.heap.size,0,none⟩=some (.int .i64 size)∧u.cell? ⟨w.heap.size,1,none⟩=some (.int .i64 next)∧u.cell? ⟨w.heap.size,2,none⟩=some (.slice ea en ec)∧u.cell? ⟨w.heap.size,4,none⟩=some (.slice ra rn rc)∧u.cell? ⟨w.heap.size,5,none⟩=some (.slice la ln lc))) 18 (by kernel_rfl) (by kernel_rfl) ?_;refine tk 0 ?_;refine tk 1 ?_;refine tk 2 ?_;refine tk 3 ?_;refine tk 5 ?_;refine tk 6 ?_;refine tk 9 ?_;refine tk 10 ?_;refine tk 13 ?_;refine tk 14 ?_;refine kr_ (F:=(fun a0=>a0.tmps.size=41∧a0.eval (.tmp 6)=.int .i64 size∧a0.eval (.tmp 8)=.int .i64 next∧a0.eval (.tmp 11)=.slice ea en ec∧a0.eval (.tmp 15)=.slice ra rn rc∧a0.eval (.tmp 19)=.slice la ln lc)) (I:=(fun a0 L a u=>∃ (b4 b7 b8 b11 b12 b15 b16 b17:Bool) (x9 x12 x13 x16 x17 x20 x21 x3:Value),L=#[true,true,true,true,b4,true,true,b7,b8,true,true,b11,b12,true,true,b15,b16,b17,true]∧a=Bf a0 x9 x12 x13 x16 x17 x20 x21 x3∧Below W.heap.size W u∧(b4=true->JP (w.heap.size+2) 77 u x9)∧(b7=true->JQ Ex.cs 2 77 (w.heap.size+2) en ex u x12)∧(b8=true->JP (w.heap.size+2) 68 u x13)∧(b11=true->JQ Ct.cs 4 68 (w.heap.size+2) rn rf u x16)∧(b12=true->JP (w.heap.size+2) 68 u x17)∧(b15=true->b11=true∧JQ Ct.cs 4 68 (w.heap.size+2) ln lt u x20∧MP x16 x20)∧(b16=true->b7=true∧b11=true∧b15=true∧x21=.agg #[.int .i64 size,.int .i64 next,x12,.slice none 0 0,x16,x20])∧(b17=true->Ll (w.heap.size+2) 28 #[.int .i64 0,.int .i64 0,.slice none 0 0,.slice none 0 0,.slice none 0 0,.slice none 0 0] u x3))) ?fr ?step ?done ?sz ?cnt ?init
 case fr=>exact⟨rfl,rfl,rfl,rfl,rfl,rfl⟩
 case sz=>(rintro L a u ⟨b4,b7,b8,b11,b12,b15,b16,b17,x9,x12,x13,x16,x17,x20,x21,x3,rfl,_⟩;rfl)
 case cnt=>exact Zm (by kernel_rfl)
 case init=>exact⟨false,false,false,false,false,false,false,false,undef,undef,undef,undef,undef,undef,undef,undef,by kernel_rfl,by kernel_rfl,hN,(fun h=>by cases h),(fun h=>by cases h),(fun h=>by cases h),(fun h=>by cases h),(fun h=>by cases h),(fun h=>by cases h),(fun h=>by cases h),(fun h=>by cases h)⟩
 case done=>
  rintro L a u ⟨b4,b7,b8,b11,b12,b15,b16,b17,x9,x12,x13,x16,x17,x20,x21,x3,rfl,rfl,ha,t4,t7,t8,t11,t12,t15,t16,t17⟩ hr;have q4:b4=true:=bX_ (k:=4) hr rfl (fun e he _=>by simp at he);subst q4;have q7:b7=true:=bX_ (k:=7) hr rfl (fun e he _=>by simp at he;rcases he with rfl | rfl<;>rfl);subst q7;have q8:b8=true:=bX_ (k:=8) hr rfl (fun e he _=>by simp at he);subst q8;have qk:b11=true:=bX_ (k:=11) hr rfl (fun e he _=>by simp at he;rcases he with rfl | rfl | rfl<;>rfl);subst qk;have ql:b12=true:=bX_ (k:=12) hr rfl (fun e he _=>by simp at he);subst ql;have qm:b15=true:=bX_ (k:=15) hr rfl (fun e he _=>by simp at he;rcases he with rfl | rfl | rfl<;>rfl);subst qm;have qo:b16=true:=bX_ (k:=16) hr rfl (fun e he _=>by simp at he;rcases he with rfl | rfl | rfl | rfl | rfl<;>rfl);subst qo;have qp:b17=true:=bX_ (k:=17) hr rfl (fun e he _=>by simp at he);subst qp;clear hr;obtain⟨ea',ec',rfl,R1,qb⟩:=t7 rfl;obtain⟨ra',rc',rfl,R3,_⟩:=t11 rfl;obtain⟨_,⟨la',lc',rfl,R4,_⟩,sep⟩:=t15 rfl;obtain⟨_,_,_,rfl⟩:=t16 rfl;obtain⟨ob,rfl,Ob,qd⟩:=t17 rfl;clear t4 t7 t8 t11 t12 t15 t16 t17;refine lastL rfl ?_;simp only[Bf,Act.put,Yj,Yq,Yr];obtain⟨o0,o1,o2,o3,o4,o5⟩:=Ob.six';obtain⟨f0,f1,f2,f3,f4,f5⟩:=fz6 Ob;obtain⟨U,hV,O1,hs⟩:=Ba Ob (.int .i64 size) (.int .i64 next) (.slice ea' en ec') (.slice none 0 0) (.slice ra' rn rc') (.slice la' ln lc');have hD:Hid (U=_):=hV;clear hV;have hv:∀ j,some ob=some j->w.heap.size+2<=j:=fun j e=>by cases e;exact qd
  have C1:=(C.below ha).offB hs hv (by omega);have D1:=(D.below ha).offB hs hv (by omega);have Q1:=R1.ty hs (aa_ Ob) (by decide);have Q3:=R3.ty hs (aa_ Ob) (by decide);have Q4:=R4.ty hs (aa_ Ob) (by decide);have hT:=Yi (Aa hC ha) hs (Aa hC ha).size (fun j e=>by have:=hv j e;omega);have qz:=hs.size;have qf:=ha.size
  go_wp2_with fail
  rw[<-hD.out];clear hD;have hP:Hid (vs.length=vn):=h2.len;clear o0 o1 o2 o3 o4 o5 f0 f1 f2 f3 f4 f5 Ob hs R1 R3 R4 c0 c1 c2 c3 c4 c5 hm hU hN C D
  go_loopw [4] (fun ix wr=>∃ (k:Nat) (a2:Option Addr) (cap2:Nat) (rows:List VR),k<=vn∧ix=.int .i64 k∧Blk wr w.heap.size #[.int .i64 size,.int .i64 next,.slice ea en ec,.slice va vn vc,.slice ra rn rc,.slice la ln lc] 28∧Blk wr (w.heap.size+1) #[.int .i64 0,.int .i64 0,.slice none 0 0,.slice none 0 0,.slice none 0 0,.slice none 0 0] 28∧Blk wr ob #[.int .i64 size,.int .i64 next,.slice ea' en ec',.slice a2 k cap2,.slice ra' rn rc',.slice la' ln lc'] 28∧Ad Ex.cs 2 77 wr (w.heap.size+2) ea' en ec' ex∧Ad Ct.cs 4 68 wr (w.heap.size+2) ra' rn rc' rf∧Ad Ct.cs 4 68 wr (w.heap.size+2) la' ln lc' lt∧Ad vrs 4 80 wr (w.heap.size+2) a2 k cap2 rows∧Bc (w.heap.size+2) wr rows (vs.take k)∧w.heap.size+2<=wr.heap.size∧Below w.heap.size w wr) (fun ix _=>vn-(intOf ix).toNat)
  case atStart=>exact⟨0,none,0,[],Zg _,rfl,C1,D1,O1,Q1,Q3,Q4,aB_,by simpa using Bc.nil _ _,by omega,hT⟩
  case round=>
   clear C1 D1 O1 Q1 Q3 Q4 hT;obtain⟨k,a2,cap2,rows,hk,rfl,C,D,O,Q1,Q3,Q4,RV,TV,qA,hB⟩:=hrel;have c3:wr.cell? ⟨w.heap.size,3,none⟩=some (.slice va vn vc):=C.cell 3;have o3:wr.cell? ⟨ob,3,none⟩=some (.slice a2 k cap2):=O.cell 3;by_cases hlt:k<vn
   ·obtain⟨b,o,x,qa,qn,qc,rfl,hx,e0,e1,e2,e3,hI,hh,_⟩:=b5_ (h2.below hB) hlt;obtain⟨m1,m2,m3⟩:=z4 x (Zc hx);rw[hI.len] at m2
    have h6:b<w.heap.size:=by
     obtain⟨b',o',_,_,_,_,h5,_,g0,_⟩:=b5_ h2 hlt;obtain⟨rfl,rfl⟩:b=b'∧o=o':=by simpa using h5
     exact Yk w _ g0
    have qg:Hid (vs.take (k+1)=vs.take k++[x]):=bx_ hx;clear hx;have qr:(k:Int)<vn:=by omega
    have qs:(0:Int)<=k:=by omega
    go_wp2_with fail
    have hm:∀ u,Below wr.heap.size wr u->(fun u=>u.cell? ⟨w.heap.size,3,none⟩=some (.slice (some ⟨b,o,none⟩) vn vc)∧u.cell? ⟨ob,3,none⟩=some (.slice a2 k cap2)∧u.cell? ⟨b,o+k*4,none⟩=some (.int .i64 x.id)∧u.cell? ⟨b,o+k*4+1,none⟩=some (.string x.nm)∧u.cell? ⟨b,o+k*4+2,none⟩=some (.bool x.fx)∧u.cell? ⟨b,o+k*4+3,none⟩=some (.slice qa qn qc)) u:=fun u hu=>⟨Ab hu c3,Ab hu o3,Ab hu e0,Ab hu e1,Ab hu e2,Ab hu e3⟩;have hU:=hm wr.drew ((Yg _ _).drew);refine ar_ (S:=(fun u=>u.cell? ⟨w.heap.size,3,none⟩=some (.slice (some ⟨b,o,none⟩) vn vc)∧u.cell? ⟨ob,3,none⟩=some (.slice a2 k cap2)∧u.cell? ⟨b,o+k*4,none⟩=some (.int .i64 x.id)∧u.cell? ⟨b,o+k*4+1,none⟩=some (.string x.nm)∧u.cell? ⟨b,o+k*4+2,none⟩=some (.bool x.fx)∧u.cell? ⟨b,o+k*4+3,none⟩=some (.slice qa qn qc))) 11 (by kernel_rfl) (by kernel_rfl) ?_;refine tk 0 ?_;refine tk 1 ?_;refine tk 2 ?_;refine tk 3 ?_;refine tk 4 ?_;refine tk 5 ?_;refine tk 6 ?_;refine Aq (i:=7) (by kernel_rfl) rfl (fun K hK=>?_);go_simp;refine (eq_ B0 hB0 x.id x.nm x.fx x.its qa qn qc _ (hI.below ((Yg _ _).drew)) m2 (fun y hy=>(m3 y hy).2)).mono ?_;rintro e w1 ⟨⟨pa,pc,irows,rfl,RI,TI⟩,hM⟩;have hJ:Below wr.heap.size wr w1:=Aa ((Yg _ _).drew) hM;have qe:=hJ.size;dsimp only;refine hK.out _ _ (hm _ hJ) (fun hHeld=>?_);clear hK K
    try simp only[Act.put,lsA,lsB,lsC]
    refine Aq (i:=8) (by kernel_rfl) rfl (fun K hK=>?_);go_simp;refine hK.out _ _ (hm _ (Aa hJ (by go_grown))) (fun hHeld=>?_);clear hK K
    try simp only[Act.put,lsA,lsB,lsC]
    refine Aq (i:=9) (by kernel_rfl) rfl (fun K hK=>?_);have hf:Below wr.heap.size wr (w1.alloc (.cells #[.int .i64 x.id,.string x.nm,.bool x.fx,.slice pa qn pc] 80)):=Aa hJ (by go_grown);refine aJ_ rfl (dC_ _ _ rfl (w.heap.size+2) a2 k cap2 rows rfl (RV.below hf) _ 1 1 [(⟨x.id,x.nm,x.fx,pa,qn,pc⟩:VR)] rfl (fQ_ _ (⟨x.id,x.nm,x.fx,pa,qn,pc⟩:VR) _ _ (by simp)) (fun ad h=>(by cases h;rfl)) (fun h=>(by cases h)) (k+1) rfl (by omega) (by have:=hf.size;omega) ?_);intro a4 cap4 w4 R4 hj;have ht:∀ j,Value.ownBlock (.slice a2 k cap2)=some j->w.heap.size+2<=j:=aG_ fun ad hn=>(RV.block ad hn).1;have hl:=(RV.below hf).rowTy (m:=k) (k:=cap2);have C4:=(C.below hf).offB hj ht (by omega);have D4:=(D.below hf).offB hj ht (by omega);have O4:=(O.below hf).ty hj hl (by decide);have hL:b<w.heap.size+2:=by omega
    have g0:=hj.cell (a:=⟨b,o+k*4,none⟩) (Ab hf e0) (at_ (fun ad hn=>(RV.block ad hn).1) hL);have g1:=hj.cell (a:=⟨b,o+k*4+1,none⟩) (Ab hf e1) (at_ (fun ad hn=>(RV.block ad hn).1) hL);have g2:=hj.cell (a:=⟨b,o+k*4+2,none⟩) (Ab hf e2) (at_ (fun ad hn=>(RV.block ad hn).1) hL);have g3:=hj.cell (a:=⟨b,o+k*4+3,none⟩) (Ab hf e3) (at_ (fun ad hn=>(RV.block ad hn).1) hL);refine hK.out _ _ ⟨C4.cell 3,O4.cell 3,g0,g1,g2,g3⟩ (fun hHeld=>?_);clear hK K
    try simp only[Act.put,lsA,lsB,lsC]
    refine tk 10 ?_;refine wpAnyH_done (by kernel_rfl) ?_ _;refine lastL rfl ?_;have y4:w4.cell? ⟨ob,3,none⟩=some (.slice a2 k cap2):=O4.cell 3;have f4:w4.frozen? ⟨ob,3,none⟩=false:=O4.frozen 3;go_wp2;go_roundw
    case rel=>
     have hz:=CS w4 ob 3 (.slice a4 (k+1) cap4);have qx:=hB.size;have qv:=hj.size;have qw:=hz.size;have qy:=hf.size;have hH:=aa_ O4;refine⟨k+1,a4,cap4,rows++[⟨x.id,x.nm,x.fx,pa,qn,pc⟩],by omega,by go_num,C4.other _ _ (by simp only[ne_eq];omega),D4.other _ _ (by simp only[ne_eq];omega),by simpa using O4.set 3 (.slice a4 (k+1) cap4),((Q1.below hf).ty hj hl (by decide)).ty hz hH (by decide),((Q3.below hf).ty hj hl (by decide)).ty hz hH (by decide),((Q4.below hf).ty hj hl (by decide)).ty hz hH (by decide),R4.ty hz hH (by decide),?_,by omega,?_⟩
     ·rw[qg.out];have V4:CE (w.heap.size+2) w4 ⟨x.id,x.nm,x.fx,pa,qn,pc⟩ x:=⟨rfl,rfl,rfl,irows,((RI.alloc _).ty hj hl (by decide)).mono (by simp only[World.size_drew] at *;omega),((TI.below (by go_grown)).ty hj hl (by decide)).mono (by simp only[World.size_drew] at *;omega)⟩;exact (((TV.below hf).ty hj hl (by decide) (by decide)).snoc V4).ty hz hH (by decide) (by decide)
     ·exact Below.setCell (Yi (Aa hB hf) hj (by omega) (fun j e=>by have:=ht j e;omega)) (by simp only;omega) _
    case measure=>simp[intOf];omega
   ·obtain rfl:k=vn:=by omega
    obtain⟨y0,y1,y2,y3,y4,y5⟩:=O.six';obtain⟨x0,x1,x2,x3,x4,x5⟩:=D.six';obtain⟨f0,f1,f2,f3,f4,f5⟩:=fz6 D;go_wp2;obtain⟨W8,hD,W0,hw⟩:=Ba D (.int .i64 size) (.int .i64 next) (.slice ea' en ec') (.slice a2 k cap2) (.slice ra' rn rc') (.slice la' ln lc');have hG:=aa_ D;have P1:=Q1.ty hw hG (by decide);have P3:=Q3.ty hw hG (by decide);have P4:=Q4.ty hw hG (by decide);have PV:=RV.ty hw hG (by decide);have PT:=TV.ty hw hG (by decide) (by decide);have PB:=hB.grown hw hB.size (fun j e=>by cases e;omega);rw[<-hD];clear hD;refine YW (results_cell_row rfl _ W8 (w.heap.size+1) _ _ _ _ rfl W0 underlying28 rfl (by kernel_rfl)) rfl ?_;rw[Zk (Zm hP.out)] at PT;exact⟨⟨_,rfl,⟨ea',en,ec',a2,k,cap2,ra',rn,rc',la',ln,lc',rows,rfl,P1.mono (by omega),⟨PV.mono (by omega),PT.mono (by omega)⟩,P3.mono (by omega),P4.mono (by omega),fun p q ep eq hp hq=>sep _ _ _ _ _ _ rfl rfl p q ep eq hp hq⟩,fun _ _ _ _ _ _ _ _ e=>by cases e;exact qb⟩,PB⟩
 case step=>
  rintro a0 ⟨fsz,f6,f8,f11,f15,f19⟩;rintro L a u i ⟨b4,b7,b8,b11,b12,b15,b16,b17,x9,x12,x13,x16,x17,x20,x21,x3,rfl,rfl,ha,t4,t7,t8,t11,t12,t15,t16,t17⟩ hi;obtain⟨h0,o,ho,hg⟩:=mem_ready.1 hi;have h8:i<19:=(ZG.1 ho).1;have qf:=ha.size;clear hi;obtain⟨i0,hW,hX,hY,hZ⟩:=info_parts Gl;obtain⟨i1,h9,qh,qi,qj⟩:=info_parts KJ;obtain rfl | rfl | rfl | rfl | rfl | rfl | rfl | rfl | rfl | rfl | rfl | rfl | rfl | rfl | rfl | rfl | rfl | rfl | rfl:i=0∨i=1∨i=2∨i=3∨i=4∨i=5∨i=6∨i=7∨i=8∨i=9∨i=10∨i=11∨i=12∨i=13∨i=14∨i=15∨i=16∨i=17∨i=18:=by omega
  ·cases h0
  ·cases h0
  ·cases h0
  ·cases h0
  ·have hb:b4=false:=h0;subst hb;simp only[Yp,Yt,Yo,Zo] at ho;subst ho;refine cL_ rfl rfl (fun K hK=>?_);go_simp;refine hK.out _ _ ⟨hm _ (Aa ha (by go_grown)),?_⟩;exact⟨true,b7,b8,b11,b12,b15,b16,b17,_,x12,x13,x16,x17,x20,x21,x3,rfl,pW_ a0 x9 x12 x13 x16 x17 x20 x21 x3 _,Aa ha (by go_grown),fun _=>⟨_,rfl,Blk.new _ _ _,by omega⟩,fun h=>(t7 h).below (by go_grown),fun h=>(t8 h).below (by go_grown),fun h=>(t11 h).below (by go_grown),fun h=>(t12 h).below (by go_grown),fun h=>⟨(t15 h).1,(t15 h).2.1.below (by go_grown),(t15 h).2.2⟩,t16,fun h=>(t17 h).below (by go_grown)⟩
  ·cases h0
  ·cases h0
  ·have hb:b7=false:=h0;subst hb;simp only[Yp,Yt,Yo,Zo] at ho;subst ho;have d4:b4=true:=hg ⟨4,.data⟩ (by simp) rfl;have es:=(oi_ a0 x9 x12 x13 x16 x17 x20 x21 x3).trans f11;have el:=pr_ fsz x9 x12 x13 x16 x17 x20 x21 x3;obtain⟨lb,hE,lblk,lge⟩:=t4 d4;replace el:=el.trans hE;refine cL_ rfl rfl (fun K hK=>?_);refine eQ_ _ _ 24 rfl (w.heap.size+2) 77 i1 (.agg #[.int .i64 0,.string .empty]) 24 underlying24 h9 qh qi qj rfl (by decide) aK_ aU_ lb el lblk lge ea en ec ex es (h1.below (Aa hC ha)) (k1.1.2.2 hB0).2 (k1.1.2.2 hB0).1 (by unfold maxLen;omega) (by omega) (by omega) ?_;intro a1 cap1 u1 R1 hc hF hO;dsimp only;refine hK.out _ _ ⟨hm _ (Aa ha hc),?_⟩;exact⟨b4,true,b8,b11,b12,b15,b16,b17,x9,_,x13,x16,x17,x20,x21,x3,rfl,ps_ a0 x9 x12 x13 x16 x17 x20 x21 x3 _,Aa ha hc,fun h=>(t4 h).below hc,fun _=>⟨_,_,rfl,R1,hF⟩,fun h=>(t8 h).below hc,fun h=>(t11 h).below hc,fun h=>(t12 h).below hc,fun h=>⟨(t15 h).1,(t15 h).2.1.below hc,(t15 h).2.2⟩,fun h=>absurd (t16 h).1 (by simp),fun h=>(t17 h).below hc⟩
  ·have hb:b8=false:=h0;subst hb;simp only[Yp,Yt,Yo,Zo] at ho;subst ho;refine cL_ rfl rfl (fun K hK=>?_);go_simp;refine hK.out _ _ ⟨hm _ (Aa ha (by go_grown)),?_⟩;exact⟨b4,b7,true,b11,b12,b15,b16,b17,x9,x12,_,x16,x17,x20,x21,x3,rfl,pt_ a0 x9 x12 x13 x16 x17 x20 x21 x3 _,Aa ha (by go_grown),fun h=>(t4 h).below (by go_grown),fun h=>(t7 h).below (by go_grown),fun _=>⟨_,rfl,Blk.new _ _ _,by omega⟩,fun h=>(t11 h).below (by go_grown),fun h=>(t12 h).below (by go_grown),fun h=>⟨(t15 h).1,(t15 h).2.1.below (by go_grown),(t15 h).2.2⟩,t16,fun h=>(t17 h).below (by go_grown)⟩
  ·cases h0
  ·cases h0
  ·have hb:b11=false:=h0;subst hb;simp only[Yp,Yt,Yo,Zo] at ho;subst ho;have d8:b8=true:=hg ⟨8,.data⟩ (by simp) rfl;have es:=(oj_ a0 x9 x12 x13 x16 x17 x20 x21 x3).trans f15;have el:=oe_ fsz x9 x12 x13 x16 x17 x20 x21 x3;obtain⟨lb,hE,lblk,lge⟩:=t8 d8;replace el:=el.trans hE;refine cL_ rfl rfl (fun K hK=>?_);refine eQ_ _ _ 26 rfl (w.heap.size+2) 68 i0 (.agg #[.int .i64 0,.int .i64 0,.string .empty,.int .i64 0]) 40 underlying26 hW hX hY hZ rfl (by decide) aS_ a9_ lb el lblk lge ra rn rc rf es (h3.below (Aa hC ha)) (k3.1.2.2 hB0).2 (k3.1.2.2 hB0).1 (by unfold maxLen;omega) (by omega) (by omega) ?_;intro a1 cap1 u1 R1 hc hF hO;dsimp only;refine hK.out _ _ ⟨hm _ (Aa ha hc),?_⟩;exact⟨b4,b7,b8,true,b12,b15,b16,b17,x9,x12,x13,_,x17,x20,x21,x3,rfl,pu_ a0 x9 x12 x13 x16 x17 x20 x21 x3 _,Aa ha hc,fun h=>(t4 h).below hc,fun h=>(t7 h).below hc,fun h=>(t8 h).below hc,fun _=>⟨_,_,rfl,R1,hF⟩,fun h=>(t12 h).below hc,fun h=>absurd (t15 h).1 (by simp),fun h=>absurd (t16 h).2.1 (by simp),fun h=>(t17 h).below hc⟩
  ·have hb:b12=false:=h0;subst hb;simp only[Yp,Yt,Yo,Zo] at ho;subst ho;refine cL_ rfl rfl (fun K hK=>?_);go_simp;refine hK.out _ _ ⟨hm _ (Aa ha (by go_grown)),?_⟩;exact⟨b4,b7,b8,b11,true,b15,b16,b17,x9,x12,x13,x16,_,x20,x21,x3,rfl,pv_ a0 x9 x12 x13 x16 x17 x20 x21 x3 _,Aa ha (by go_grown),fun h=>(t4 h).below (by go_grown),fun h=>(t7 h).below (by go_grown),fun h=>(t8 h).below (by go_grown),fun h=>(t11 h).below (by go_grown),fun _=>⟨_,rfl,Blk.new _ _ _,by omega⟩,fun h=>⟨(t15 h).1,(t15 h).2.1.below (by go_grown),(t15 h).2.2⟩,t16,fun h=>(t17 h).below (by go_grown)⟩
  ·cases h0
  ·cases h0
  ·have hb:b15=false:=h0;subst hb;simp only[Yp,Yt,Yo,Zo] at ho;subst ho;have d12:b12=true:=hg ⟨12,.data⟩ (by simp) rfl;have es:=(ok_ a0 x9 x12 x13 x16 x17 x20 x21 x3).trans f19;have el:=og_ fsz x9 x12 x13 x16 x17 x20 x21 x3;have d11:b11=true:=hg ⟨11,.chain⟩ (by simp) rfl;obtain⟨ra',rc',hQ,R3,qt⟩:=t11 d11;obtain⟨lb,hE,lblk,lge⟩:=t12 d12;replace el:=el.trans hE;refine cL_ rfl rfl (fun K hK=>?_);refine eQ_ _ _ 26 rfl (w.heap.size+2) 68 i0 (.agg #[.int .i64 0,.int .i64 0,.string .empty,.int .i64 0]) 40 underlying26 hW hX hY hZ rfl (by decide) aS_ a9_ lb el lblk lge la ln lc lt es (h4.below (Aa hC ha)) (k4.1.2.2 hB0).2 (k4.1.2.2 hB0).1 (by unfold maxLen;omega) (by omega) (by omega) ?_;intro a1 cap1 u1 R1 hc hF hO;dsimp only;refine hK.out _ _ ⟨hm _ (Aa ha hc),?_⟩
   have sep:MP x16 (.slice a1 ln cap1):=by
    intro q1 q2 q3 q4 q5 q6 e1 e2 p q ep eq qq h7;rw[hQ] at e1
    cases e1;cases e2
    have:=hO h7 q eq
    have:=(R3.block p ep).2
    omega
   exact⟨b4,b7,b8,b11,b12,true,b16,b17,x9,x12,x13,x16,x17,_,x21,x3,rfl,pw_ a0 x9 x12 x13 x16 x17 x20 x21 x3 _,Aa ha hc,fun h=>(t4 h).below hc,fun h=>(t7 h).below hc,fun h=>(t8 h).below hc,fun h=>(t11 h).below hc,fun h=>(t12 h).below hc,fun _=>⟨d11,⟨_,_,rfl,R1,hF⟩,sep⟩,fun h=>absurd (t16 h).2.2.1 (by simp),fun h=>(t17 h).below hc⟩
  ·have hb:b16=false:=h0;subst hb;simp only[Yp,Yt,Yo,Zo] at ho;subst ho;have d7:b7=true:=hg ⟨7,.data⟩ (by simp) rfl;have d11:b11=true:=hg ⟨11,.data⟩ (by simp) rfl;have d15:b15=true:=hg ⟨15,.data⟩ (by simp) rfl;have e6:=(py_ a0 x9 x12 x13 x16 x17 x20 x21 x3).trans f6;have e8:=(pz_ a0 x9 x12 x13 x16 x17 x20 x21 x3).trans f8;have e12:=od_ fsz x9 x12 x13 x16 x17 x20 x21 x3;have e16:=of_ fsz x9 x12 x13 x16 x17 x20 x21 x3;have e20:=oh_ fsz x9 x12 x13 x16 x17 x20 x21 x3;obtain⟨ea',ec',g7,_,_⟩:=t7 d7;obtain⟨ra',rc',hR,_,_⟩:=t11 d11;obtain⟨_,⟨la',lc',hS,_,_⟩,_⟩:=t15 d15;replace e12:=e12.trans g7;replace e16:=e16.trans hR;replace e20:=e20.trans hS;refine cL_ rfl rfl (fun K hK=>?_);generalize hA:Bf a0 x9 x12 x13 x16 x17 x20 x21 x3=A at *;simp only[Oper.wp,execOp,List.map_toArray,YD,List.map_nil,e6,e8,e12,e16,e20];go_simp;refine hK.out _ _ ⟨hm _ ha,?_⟩;rw[<-hA];exact⟨b4,b7,b8,b11,b12,b15,true,b17,x9,x12,x13,x16,x17,x20,_,x3,rfl,px_ a0 x9 x12 x13 x16 x17 x20 x21 x3 _,ha,t4,t7,t8,t11,t12,t15,fun _=>⟨d7,d11,d15,by rw[g7,hR,hS]⟩,t17⟩
  ·have hb:b17=false:=h0;subst hb;simp only[Yp,Yt,Yo,Zo] at ho;subst ho;refine cL_ rfl rfl (fun K hK=>?_);go_simp;refine hK.out _ _ ⟨hm _ (Aa ha (by go_grown)),?_⟩;exact⟨b4,b7,b8,b11,b12,b15,b16,true,x9,x12,x13,x16,x17,x20,x21,_,rfl,pX_ a0 x9 x12 x13 x16 x17 x20 x21 x3 _,Aa ha (by go_grown),fun h=>(t4 h).below (by go_grown),fun h=>(t7 h).below (by go_grown),fun h=>(t8 h).below (by go_grown),fun h=>(t11 h).below (by go_grown),fun h=>(t12 h).below (by go_grown),fun h=>⟨(t15 h).1,(t15 h).2.1.below (by go_grown),(t15 h).2.2⟩,t16,fun _=>⟨_,rfl,Blk.new _ _ _,by omega⟩⟩
  ·cases h0
theorem kZ_ {f:α->Bool}{k:Nat}{x:α}(h:l[k]?=some x):(l.take (k+1)).filter f=(l.take k).filter f++(if f x=true then [x] else []):=by
 rw[bx_ h,YR]
 cases hf:f x<;>simp[hf]
theorem jD_ (B:Nat)(v:Value)(p:Po)(w:World)(h:Ag B w v p)(hBw:B<=w.heap.size)(hex:p.ex.length<=4194304)(hrn:p.rf.length<=100000)(hln:p.lt.length<=100000)(hb:∀ x∈p.rf,-100000000<=x.n∧x.n<=100000000)(hb':∀ x∈p.lt,-100000000<=x.n∧x.n<=100000000):
  Calls prog 65 #[v] w fun e w'=>(∃ v',e=.returned v'∧Ag B w' v' (Fs p))∧Below w.heap.size w w':=by
 obtain⟨ea,en,ec,va,vn,vc,ra,rn,rc,la,ln,lc,rows,rfl,h1,⟨h2,h3⟩,h4,h5,h6⟩:=h;obtain⟨size,next,ex,vs,rf,lt⟩:=p;simp only at h1 h2 h3 h4 h5 hex hrn hln hb hb' ⊢;rw[h1.sl.len] at hex;rw[h4.sl.len] at hrn;rw[h5.sl.len] at hln;go_enter func65,ntmps65
 go_wp2_with fail
 refine (cJ_ ra rn rc rf la ln lc lt _ (h4.sl.below (by go_grown)) h4.arg.spot h4.arg.nil (h5.sl.below (by go_grown)) hrn hln hb hb').mono ?_;rintro e w1 ⟨⟨sa,sn,sc,rfl,hS,RS⟩,hm⟩;have C:Blk w1 w.heap.size #[.int .i64 size,.int .i64 next,.slice ea en ec,.slice va vn vc,.slice ra rn rc,.slice la ln lc] 28:=((Blk.new w _ _).alloc _).below hm;have D:Blk w1 (w.heap.size+1) #[.int .i64 0,.int .i64 0,.slice none 0 0,.slice none 0 0,.slice none 0 0,.slice none 0 0] 28:=(Blk.new' _ _ _ _ (by simp)).below hm;have hg:Below w.heap.size w w1:=Aa (by go_grown) hm;have hH:w.heap.size+2<=w1.heap.size:=by have:=hm.size;simp at this;omega
 replace RS:=RS.mono (B':=w.heap.size+2) (by simp);clear hm;obtain⟨c0,c1,c2,c3,c4,c5⟩:=C.six';have f4:=C.frozen 4;have C1:Blk (w1.setCell ⟨w.heap.size,4,none⟩ (.slice sa sn sc)) w.heap.size #[.int .i64 size,.int .i64 next,.slice ea en ec,.slice va vn vc,.slice sa sn sc,.slice la ln lc] 28:=by simpa using C.set 4 (.slice sa sn sc)
 have he:=CS w1 w.heap.size 4 (.slice sa sn sc);have e5:=C1.cell 5;have f5:=C1.frozen 5;have C2:Blk ((w1.setCell ⟨w.heap.size,4,none⟩ (.slice sa sn sc)).setCell ⟨w.heap.size,5,none⟩ (.slice none 0 0)) w.heap.size #[.int .i64 size,.int .i64 next,.slice ea en ec,.slice va vn vc,.slice sa sn sc,.slice none 0 0] 28:=by simpa using C1.set 5 (.slice none 0 0)
 have hn:w1.grownBy ((w1.setCell ⟨w.heap.size,4,none⟩ (.slice sa sn sc)).setCell ⟨w.heap.size,5,none⟩ (.slice none 0 0)) (some w.heap.size):=af_ he 5 (.slice none 0 0);have D2:Blk _ (w.heap.size+1) _ _:=(hn.block _ D.lt (by simp only[ne_eq,Zo];omega)).trans D;have ht:=RS.ty hn (aa_ C) (by decide);have hq:=hg.grown hn hg.size (fun j e=>by cases e;exact Zd _);have hI:=hn.size;have hM:((w1.setCell ⟨w.heap.size,4,none⟩ (.slice sa sn sc)).setCell ⟨w.heap.size,5,none⟩ (.slice none 0 0)).heap.size=w1.heap.size:=by simp
 go_wp2_with fail
 generalize (w1.setCell ⟨w.heap.size,4,none⟩ (.slice sa sn sc)).setCell ⟨w.heap.size,5,none⟩ (.slice none 0 0)=W at *;clear c0 c1 c2 c3 c4 c5 f4 e5 f5 C1 he hn C D RS hg;have hr:Hid (ex.length=en):=h1.sl.len;have hs:sn<=4194304:=by omega
 have hF:∀ e:Ex,((A7 rf lt)++[]).any (fun c=>c.o.a==e.a)=(A7 rf lt).any (fun c=>c.o.a==e.a):=fun e=>by rw[Yy]
 go_loopw [3,4] (fun lst ix wr=>∃ (k:Nat) (a2:Option Addr) (n2 cap2:Nat),k<=en∧ix=.int .i64 k∧lst=.slice a2 n2 cap2∧n2<=k∧Ad Ex.cs 2 77 wr (w.heap.size+2) a2 n2 cap2 ((ex.take k).filter (fun e=>(A7 rf lt).any (fun c=>c.o.a==e.a)))∧Blk wr w.heap.size #[.int .i64 size,.int .i64 next,.slice ea en ec,.slice va vn vc,.slice sa sn sc,.slice none 0 0] 28∧Blk wr (w.heap.size+1) #[.int .i64 0,.int .i64 0,.slice none 0 0,.slice none 0 0,.slice none 0 0,.slice none 0 0] 28∧Ad Ct.cs 4 68 wr (w.heap.size+2) sa sn sc (A7 rf lt)∧w.heap.size+2<=wr.heap.size∧Below w.heap.size w wr) (fun _ ix _=>en-(intOf ix).toNat)
 case atStart=>exact⟨0,_,0,0,Zg _,rfl,rfl,Zd _,(by rw[Yx];exact aw_ (Blk.new' _ _ _ _ hM.symm) (by omega)),C2.alloc _,D2.alloc _,ht.alloc _,by simp;omega,hq.alloc hq.size _⟩
 case round=>
  clear C2 D2 ht hq hI hH;obtain⟨k,a2,n2,cap2,hk,rfl,rfl,hR,R2,C,D,RS,hT,hB⟩:=hrel;obtain⟨d0,d1,d2,d3,d4,d5⟩:=C.six';by_cases hlt:k<en
  ·obtain⟨b,o,x,rfl,hx,c0,c1⟩:=be_ (h1.sl.below hB) hlt;have hl:Hid ((ex.take (k+1)).filter (fun e=>(A7 rf lt).any (fun c=>c.o.a==e.a))=(ex.take k).filter (fun e=>(A7 rf lt).any (fun c=>c.o.a==e.a))++(if (A7 rf lt).any (fun c=>c.o.a==x.a)=true then [x] else [])):=kZ_ hx
   have hO:b<w.heap.size+2:=by
    obtain⟨b',o',_,hG,_,g0,_⟩:=be_ h1.sl hlt;obtain⟨rfl,rfl⟩:b=b'∧o=o':=by simpa using hG
    have:=Yk w _ g0
    simp only at this;omega
   clear hx;generalize (ex.take k).filter (fun e=>(A7 rf lt).any (fun c=>c.o.a==e.a))=FL at *;have hP:(k:Int)<en:=by omega
   have hQ:(0:Int)<=k:=by omega
   have ha:=fun (u:World) (hu:Below wr.heap.size wr u)=>gJ_ size next (some ⟨b,o,none⟩) en ec va vn vc sa sn sc none 0 0 (A7 rf lt) [] x.a u (RS.sl.below hu) ⟨rfl,fun i y hy=>by simp at hy⟩ hs (by omega);have g0:=Ac d0;have g1:=Ac d1;have g2:=Ac d2;have g3:=Ac d3;have g4:=Ac d4;have g5:=Ac d5;have gx:=Ac c0;have hz:=aA_ wr;rw[hF] at ha
   cases hf:(A7 rf lt).any (fun c=>c.o.a==x.a)
   ·rw[hf] at hl ha;simp only[Zj,if_false,Yy] at hl
    go_wp2_with fail
    refine ab_ (by kernel_rfl) (by kernel_rfl) ?_
    repeat (go_big_quiet_step (first | (go_at_call 55;exact an_ (ha _ (Grw.h _)))))
    refine wpQuiet_nil ?_;intro w6 hp;have hc:=ah_ hp;have hJ:=hc.size;clear hp g0 g1 g2 g3 g4 g5 gx hz hf ha;go_wp2;go_roundw
    case rel=>exact⟨k+1,a2,n2,cap2,by omega,by go_num,rfl,by omega,by rw[hl.out];exact R2.below hc,C.below hc,D.below hc,RS.below hc,by omega,Aa hB hc⟩
    case measure=>simp[intOf];omega
   ·rw[hf] at hl ha;simp only[if_true] at hl
    go_wp2_with fail
    refine ab_ (by kernel_rfl) (by kernel_rfl) ?_
    repeat (go_big_quiet_step (first | (go_at_call 55;exact an_ (ha _ (Grw.h _)))))
    refine wpQuiet_nil ?_;intro w6 hp;have hc:=ah_ hp;have hJ:=hc.size;have R6:=R2.below hc;have C6:=C.below hc;have D6:=D.below hc;have hA:=RS.below hc;have hv:=Aa hB hc;have m2:w6.cell? ⟨w.heap.size,2,none⟩=some (.slice (some ⟨b,o,none⟩) en ec):=C6.cell 2;have x0:=Ab hc c0;have x1:=Ab hc c1;clear hp g0 g1 g2 g3 g4 g5 gx hz hf ha
    go_wp2_with (at_builtin;refine ag_ rfl (fun K hK=>mG_ _ _ rfl (w.heap.size+2) a2 n2 cap2 FL rfl (R6.alloc _) _ 1 1 [x] rfl (c9_ _ x _ _ (by simp)) (fun ad h=>(by cases h;rfl)) (fun h=>(by cases h)) (n2+1) rfl (by omega) (by simp;omega) (fun a7 cap7 w7 R7 ho _=>hK _ _ ?_));have hh:∀ j,Value.ownBlock (.slice a2 n2 cap2)=some j->w.heap.size+2<=j:=aG_ fun ad hE=>(R6.block ad hE).1;have hN:=(R6.alloc (.cells #[.int .i64 x.a,.string x.d] 77)).rowTy (m:=n2) (k:=cap2);have hL:=ho.size;have C7:=(C6.alloc (.cells #[.int .i64 x.a,.string x.d] 77)).offB ho hh (by omega);have D7:=(D6.alloc (.cells #[.int .i64 x.a,.string x.d] 77)).offB ho hh (by omega);have hC:=(hA.alloc (.cells #[.int .i64 x.a,.string x.d] 77)).ty ho hN (by decide);have hD:=Yi (hv.alloc hv.size (.cells #[.int .i64 x.a,.string x.d] 77)) ho (by simp;omega) (fun j e=>by have:=hh j e;omega))
    go_roundw
    case rel=>exact⟨k+1,a7,n2+1,cap7,by omega,by go_num,rfl,by omega,by rw[hl.out];exact R7,C7,D7,hC,by simp at hL;omega,hD⟩
    case measure=>simp[intOf];omega
  ·obtain rfl:k=en:=by omega
   have f2:=C.frozen 2;have C1:Blk (wr.setCell ⟨w.heap.size,2,none⟩ (.slice a2 n2 cap2)) w.heap.size #[.int .i64 size,.int .i64 next,.slice a2 n2 cap2,.slice va vn vc,.slice sa sn sc,.slice none 0 0] 28:=by simpa using C.set 2 (.slice a2 n2 cap2)
   have he:=CS wr w.heap.size 2 (.slice a2 n2 cap2);have D1:Blk (wr.setCell ⟨w.heap.size,2,none⟩ (.slice a2 n2 cap2)) (w.heap.size+1) _ _:=(he.block _ D.lt (by simp only[ne_eq,Zo];omega)).trans D;obtain⟨y0,y1,y2,y3,y4,y5⟩:=C1.six';obtain⟨x0,x1,x2,x3,x4,x5⟩:=D1.six';have f0:=D1.frozen 0;have f1:=D1.frozen 1;have q2:=D1.frozen 2;have f3:=D1.frozen 3;have f4:=D1.frozen 4;have f5:=D1.frozen 5;obtain⟨W8,hw,W0,hj⟩:=Ba D1 (.int .i64 size) (.int .i64 next) (.slice a2 n2 cap2) (.slice va vn vc) (.slice sa sn sc) (.slice none 0 0);have R8:=(R2.ty he (aa_ C) (by decide)).ty hj (aa_ D1) (by decide);have S8:=(RS.ty he (aa_ C) (by decide)).ty hj (aa_ D1) (by decide);have V8:=((h2.below hB).ty he (aa_ C) (by decide)).ty hj (aa_ D1) (by decide);have T8:=((h3.below hB).ty he (aa_ C) (by decide) (by decide)).ty hj (aa_ D1) (by decide) (by decide);have B8:=(hB.grown he hB.size (fun j e=>by cases e;exact Zd _)).grown hj (by have:=he.size;have:=hB.size;omega) (fun j e=>by cases e;omega);rw[Zk (Zm hr.out)] at R8;clear C1 D1 he hj;go_wp2;rw[<-hw];clear hw;refine YW (results_cell_row rfl _ W8 (w.heap.size+1) _ _ _ _ rfl W0 underlying28 rfl (by kernel_rfl)) rfl ?_;exact⟨⟨_,rfl,a2,n2,cap2,va,vn,vc,sa,sn,sc,none,0,0,rows,rfl,R8.mono (by omega),⟨V8,T8⟩,S8.mono (by omega),aB_,fun p q _ e=>by cases e⟩,B8⟩
theorem l7_ (k:Int)(vol file tt into:ByteArray)(at' fr ln:Int)(data:ByteArray)(w:World)(hk:¬ (1<=k∧k<=10)):
  Calls prog 63 #[.agg #[.int .i64 k,.string vol,.string file,.string tt,.string into,.int .i64 at',.int .i64 fr,.int .i64 ln,.string data]] w fun e w'=>e=.returned (.bool (opB ⟨k,vol,file,tt,into,at',fr,ln,data⟩))∧Below w.heap.size w w':=by
 have ha:Hid (opB ⟨k,vol,file,tt,into,at',fr,ln,data⟩=(false)):=by
  show _=_;unfold opB;dsimp only
  repeat (rw[if_neg (by omega)])
 generalize opB ⟨k,vol,file,tt,into,at',fr,ln,data⟩=R at *;go_enter func63,ntmps63
 go_upto_region 1 with fail
 go_cut [3] (fun s wc=>s=.bool (at'==0&&(fr==0&&(ln==0&&zB data)))∧wc=w.alloc (.cells #[.int .i64 k,.string vol,.string file,.string tt,.string into,.int .i64 at',.int .i64 fr,.int .i64 ln,.string data] 43))
 case first=>
  cases h1:(at'==0)
  case false=>
   go_wp2;go_meet;exact⟨by rw[h1];rfl,rfl⟩
  cases h2:(fr==0)
  case false=>
   go_wp2;go_meet;exact⟨by rw[h1,h2];rfl,rfl⟩
  cases h3:(ln==0)
  case false=>
   go_wp2;go_meet;exact⟨by rw[h1,h2,h3];rfl,rfl⟩
  go_wp2;go_meet;exact⟨by rw[h1,h2,h3];simp[zB],rfl⟩
 case rest=>
  obtain⟨rfl,rfl⟩:=hcut
  go_upto_region 2 with fail
  go_cut [4] (fun s wc=>s=.bool (zB tt&&zB into)∧wc=w.alloc (.cells #[.int .i64 k,.string vol,.string file,.string tt,.string into,.int .i64 at',.int .i64 fr,.int .i64 ln,.string data] 43))
  case first=>
   go_wp2
   all_goals go_meet
   all_goals (refine⟨?_,rfl⟩;simp_all [zB])
  case rest=>
   obtain⟨rfl,rfl⟩:=hcut;generalize hB:(at'==0&&(fr==0&&(ln==0&&zB data)))=B;generalize hT:(zB tt&&zB into)=T
   go_wp2_with fail
   refine (ai_ at' 0 100 _).mono ?_;rintro e w1 ⟨rfl,rfl⟩
   go_wp2_with fail
   refine (ai_ ln 1 100 _).mono ?_;rintro e w1 ⟨rfl,rfl⟩;have k1:(k==1)=false:=by simp;omega
   have k2:(k==2)=false:=by simp;omega
   have k3:(k==3)=false:=by simp;omega
   have k4:(k==4)=false:=by simp;omega
   have k5:(k==5)=false:=by simp;omega
   have k6:(k==6)=false:=by simp;omega
   have k7:(k==7)=false:=by simp;omega
   have k8:(k==8)=false:=by simp;omega
   have k9:(k==9)=false:=by simp;omega
   have k10:(k==10)=false:=by simp;omega
   go_wp2;go_returns;go_light;exact⟨ac_ ha.out.symm,by go_grown⟩
theorem l8_ (vol file tt into:ByteArray)(at' fr ln:Int)(data:ByteArray)(w:World)(hs:Ds ⟨1,vol,file,tt,into,at',fr,ln,data⟩):
  Calls prog 63 #[.agg #[.int .i64 1,.string vol,.string file,.string tt,.string into,.int .i64 at',.int .i64 fr,.int .i64 ln,.string data]] w fun e w'=>e=.returned (.bool (opB ⟨1,vol,file,tt,into,at',fr,ln,data⟩))∧Below w.heap.size w w':=by
 have hv:=hs.vol;have hf:=hs.file;have ht:=hs.to;have hi:=hs.into;have hd:=hs.data;dsimp only at hv hf ht hi hd;clear hs
 have ha:Hid (opB ⟨1,vol,file,tt,into,at',fr,ln,data⟩=(nameB vol&&(zB file&&((zB tt&&zB into)&&(at'==0&&(fr==0&&(ln==0&&zB data))))))):=by
  show _=_;simp[opB,ZO]
 generalize opB ⟨1,vol,file,tt,into,at',fr,ln,data⟩=R at *;go_enter func63,ntmps63
 go_upto_region 1 with fail
 go_cut [3] (fun s wc=>s=.bool (at'==0&&(fr==0&&(ln==0&&zB data)))∧wc=w.alloc (.cells #[.int .i64 1,.string vol,.string file,.string tt,.string into,.int .i64 at',.int .i64 fr,.int .i64 ln,.string data] 43))
 case first=>
  cases h1:(at'==0)
  case false=>
   go_wp2;go_meet;exact⟨by rw[h1];rfl,rfl⟩
  cases h2:(fr==0)
  case false=>
   go_wp2;go_meet;exact⟨by rw[h1,h2];rfl,rfl⟩
  cases h3:(ln==0)
  case false=>
   go_wp2;go_meet;exact⟨by rw[h1,h2,h3];rfl,rfl⟩
  go_wp2;go_meet;exact⟨by rw[h1,h2,h3];simp[zB],rfl⟩
 case rest=>
  obtain⟨rfl,rfl⟩:=hcut
  go_upto_region 2 with fail
  go_cut [4] (fun s wc=>s=.bool (zB tt&&zB into)∧wc=w.alloc (.cells #[.int .i64 1,.string vol,.string file,.string tt,.string into,.int .i64 at',.int .i64 fr,.int .i64 ln,.string data] 43))
  case first=>
   go_wp2
   all_goals go_meet
   all_goals (refine⟨?_,rfl⟩;simp_all [zB])
  case rest=>
   obtain⟨rfl,rfl⟩:=hcut;generalize hB:(at'==0&&(fr==0&&(ln==0&&zB data)))=B at *;generalize hT:(zB tt&&zB into)=T at *
   go_wp2_with fail
   refine (ai_ at' 0 100 _).mono ?_;rintro e w1 ⟨rfl,rfl⟩;generalize hC1:(decide (0<=at')&&decide (at'<=100))=C1
   go_wp2_with fail
   refine (ai_ ln 1 100 _).mono ?_;rintro e w1 ⟨rfl,rfl⟩;generalize hC2:(decide (1<=ln)&&decide (ln<=100))=C2
   go_wp2_with fail
   refine (aq_ vol _ hv).mono ?_;rintro e w1 ⟨rfl,rfl⟩
   cases hb:nameB vol
   case false=>
    go_wp2
    all_goals go_returns
    all_goals go_light
    all_goals refine⟨ac_ ?_,by go_grown⟩
    all_goals rw[ha.out]
    all_goals simp_all [zB]
   go_wp2
   all_goals go_returns
   all_goals go_light
   all_goals refine⟨ac_ ?_,by go_grown⟩
   all_goals rw[ha.out]
   all_goals simp_all [zB]
theorem pQ_ (d:ByteArray):decide (1<=d.size)=!zB d:=by
 obtain⟨⟨l⟩⟩:=d
 cases l<;>simp[zB,ByteArray.size,Zu]
theorem l9_ (vol file tt into:ByteArray)(at' fr ln:Int)(data:ByteArray)(w:World)(hs:Ds ⟨2,vol,file,tt,into,at',fr,ln,data⟩):
  Calls prog 63 #[.agg #[.int .i64 2,.string vol,.string file,.string tt,.string into,.int .i64 at',.int .i64 fr,.int .i64 ln,.string data]] w fun e w'=>e=.returned (.bool (opB ⟨2,vol,file,tt,into,at',fr,ln,data⟩))∧Below w.heap.size w w':=by
 have hv:=hs.vol;have hf:=hs.file;have ht:=hs.to;have hi:=hs.into;have hd:=hs.data;dsimp only at hv hf ht hi hd;clear hs
 have ha:Hid (opB ⟨2,vol,file,tt,into,at',fr,ln,data⟩=(nameB vol&&(nameB file&&((zB tt&&zB into)&&((decide (0<=at')&&decide (at'<=100))&&(fr==0&&(ln==0&&(!zB data&&(plainB data&&decide (data.size<=20)))))))))):=by
  show _=_;simp[opB,Aw,pQ_,inB,ZO,Bool.and_comm,Bool.and_left_comm]
 generalize opB ⟨2,vol,file,tt,into,at',fr,ln,data⟩=R at *;go_enter func63,ntmps63
 go_upto_region 1 with fail
 go_cut [3] (fun s wc=>s=.bool (at'==0&&(fr==0&&(ln==0&&zB data)))∧wc=w.alloc (.cells #[.int .i64 2,.string vol,.string file,.string tt,.string into,.int .i64 at',.int .i64 fr,.int .i64 ln,.string data] 43))
 case first=>
  cases h1:(at'==0)
  case false=>
   go_wp2;go_meet;exact⟨by rw[h1];rfl,rfl⟩
  cases h2:(fr==0)
  case false=>
   go_wp2;go_meet;exact⟨by rw[h1,h2];rfl,rfl⟩
  cases h3:(ln==0)
  case false=>
   go_wp2;go_meet;exact⟨by rw[h1,h2,h3];rfl,rfl⟩
  go_wp2;go_meet;exact⟨by rw[h1,h2,h3];simp[zB],rfl⟩
 case rest=>
  obtain⟨rfl,rfl⟩:=hcut
  go_upto_region 2 with fail
  go_cut [4] (fun s wc=>s=.bool (zB tt&&zB into)∧wc=w.alloc (.cells #[.int .i64 2,.string vol,.string file,.string tt,.string into,.int .i64 at',.int .i64 fr,.int .i64 ln,.string data] 43))
  case first=>
   go_wp2
   all_goals go_meet
   all_goals (refine⟨?_,rfl⟩;simp_all [zB])
  case rest=>
   obtain⟨rfl,rfl⟩:=hcut;generalize hB:(at'==0&&(fr==0&&(ln==0&&zB data)))=B;generalize hT:(zB tt&&zB into)=T at *
   go_wp2_with fail
   refine (ai_ at' 0 100 _).mono ?_;rintro e w1 ⟨rfl,rfl⟩;generalize hC1:(decide (0<=at')&&decide (at'<=100))=C1 at *
   go_wp2_with fail
   refine (ai_ ln 1 100 _).mono ?_;rintro e w1 ⟨rfl,rfl⟩;generalize hC2:(decide (1<=ln)&&decide (ln<=100))=C2
   go_wp2_with fail
   refine (aq_ vol _ hv).mono ?_;rintro e w1 ⟨rfl,rfl⟩
   cases hc:nameB vol
   case false=>
    go_wp2
    all_goals go_returns
    all_goals go_light
    all_goals refine⟨ac_ ?_,by go_grown⟩
    all_goals rw[ha.out]
    all_goals simp_all [zB]
   go_wp2_with fail
   refine (aq_ file _ hf).mono ?_;rintro e w1 ⟨rfl,rfl⟩
   cases hb:nameB file
   case false=>
    go_wp2
    all_goals go_returns
    all_goals go_light
    all_goals refine⟨ac_ ?_,by go_grown⟩
    all_goals rw[ha.out]
    all_goals simp_all [zB]
   cases T
   case false=>
    go_wp2
    all_goals go_returns
    all_goals go_light
    all_goals refine⟨ac_ ?_,by go_grown⟩
    all_goals rw[ha.out]
    all_goals simp_all [zB]
   cases C1
   case false=>
    go_wp2
    all_goals go_returns
    all_goals go_light
    all_goals refine⟨ac_ ?_,by go_grown⟩
    all_goals rw[ha.out]
    all_goals simp_all [zB]
   cases zfr:(fr==0)
   case false=>
    go_wp2
    all_goals go_returns
    all_goals go_light
    all_goals refine⟨ac_ ?_,by go_grown⟩
    all_goals rw[ha.out]
    all_goals simp_all [zB]
   cases zln:(ln==0)
   case false=>
    go_wp2
    all_goals go_returns
    all_goals go_light
    all_goals refine⟨ac_ ?_,by go_grown⟩
    all_goals rw[ha.out]
    all_goals simp_all [zB]
   by_cases hz:data.toList=[]
   case pos=>
    go_wp2
    all_goals go_returns
    all_goals go_light
    all_goals refine⟨ac_ ?_,by go_grown⟩
    all_goals rw[ha.out]
    all_goals simp_all [zB]
   go_wp2_with fail
   refine (a7_ data _ hd).mono ?_;rintro e w1 ⟨rfl,rfl⟩;go_wp2
   all_goals go_returns
   all_goals go_light
   all_goals refine⟨ac_ ?_,by go_grown⟩
   all_goals rw[ha.out]
   all_goals simp_all [zB]
theorem ma_ (vol file tt into:ByteArray)(at' fr ln:Int)(data:ByteArray)(w:World)(hs:Ds ⟨3,vol,file,tt,into,at',fr,ln,data⟩):
  Calls prog 63 #[.agg #[.int .i64 3,.string vol,.string file,.string tt,.string into,.int .i64 at',.int .i64 fr,.int .i64 ln,.string data]] w fun e w'=>e=.returned (.bool (opB ⟨3,vol,file,tt,into,at',fr,ln,data⟩))∧Below w.heap.size w w':=by
 have hv:=hs.vol;have hf:=hs.file;have ht:=hs.to;have hi:=hs.into;have hd:=hs.data;dsimp only at hv hf ht hi hd;clear hs
 have ha:Hid (opB ⟨3,vol,file,tt,into,at',fr,ln,data⟩=(nameB vol&&(nameB file&&((zB tt&&zB into)&&(at'==0&&(fr==0&&((decide (0<=ln)&&decide (ln<=100))&&zB data))))))):=by
  show _=_;simp[opB,inB,ZO,Bool.and_comm,Bool.and_left_comm]
 generalize opB ⟨3,vol,file,tt,into,at',fr,ln,data⟩=R at *;go_enter func63,ntmps63
 go_upto_region 1 with fail
 go_cut [3] (fun s wc=>s=.bool (at'==0&&(fr==0&&(ln==0&&zB data)))∧wc=w.alloc (.cells #[.int .i64 3,.string vol,.string file,.string tt,.string into,.int .i64 at',.int .i64 fr,.int .i64 ln,.string data] 43))
 case first=>
  cases h1:(at'==0)
  case false=>
   go_wp2;go_meet;exact⟨by rw[h1];rfl,rfl⟩
  cases h2:(fr==0)
  case false=>
   go_wp2;go_meet;exact⟨by rw[h1,h2];rfl,rfl⟩
  cases h3:(ln==0)
  case false=>
   go_wp2;go_meet;exact⟨by rw[h1,h2,h3];rfl,rfl⟩
  go_wp2;go_meet;exact⟨by rw[h1,h2,h3];simp[zB],rfl⟩
 case rest=>
  obtain⟨rfl,rfl⟩:=hcut
  go_upto_region 2 with fail
  go_cut [4] (fun s wc=>s=.bool (zB tt&&zB into)∧wc=w.alloc (.cells #[.int .i64 3,.string vol,.string file,.string tt,.string into,.int .i64 at',.int .i64 fr,.int .i64 ln,.string data] 43))
  case first=>
   go_wp2
   all_goals go_meet
   all_goals (refine⟨?_,rfl⟩;simp_all [zB])
  case rest=>
   obtain⟨rfl,rfl⟩:=hcut;generalize hB:(at'==0&&(fr==0&&(ln==0&&zB data)))=B;generalize hT:(zB tt&&zB into)=T at *
   go_wp2_with fail
   refine (ai_ at' 0 100 _).mono ?_;rintro e w1 ⟨rfl,rfl⟩;generalize hC1:(decide (0<=at')&&decide (at'<=100))=C1
   go_wp2_with fail
   refine (ai_ ln 1 100 _).mono ?_;rintro e w1 ⟨rfl,rfl⟩;generalize hC2:(decide (1<=ln)&&decide (ln<=100))=C2
   go_wp2_with fail
   refine (aq_ vol _ hv).mono ?_;rintro e w1 ⟨rfl,rfl⟩
   cases hc:nameB vol
   case false=>
    go_wp2
    all_goals go_returns
    all_goals go_light
    all_goals refine⟨ac_ ?_,by go_grown⟩
    all_goals rw[ha.out]
    all_goals simp_all [zB]
   go_wp2_with fail
   refine (aq_ file _ hf).mono ?_;rintro e w1 ⟨rfl,rfl⟩
   cases hb:nameB file
   case false=>
    go_wp2
    all_goals go_returns
    all_goals go_light
    all_goals refine⟨ac_ ?_,by go_grown⟩
    all_goals rw[ha.out]
    all_goals simp_all [zB]
   cases T
   case false=>
    go_wp2
    all_goals go_returns
    all_goals go_light
    all_goals refine⟨ac_ ?_,by go_grown⟩
    all_goals rw[ha.out]
    all_goals simp_all [zB]
   cases zat:(at'==0)
   case false=>
    go_wp2
    all_goals go_returns
    all_goals go_light
    all_goals refine⟨ac_ ?_,by go_grown⟩
    all_goals rw[ha.out]
    all_goals simp_all [zB]
   cases zfr:(fr==0)
   case false=>
    go_wp2
    all_goals go_returns
    all_goals go_light
    all_goals refine⟨ac_ ?_,by go_grown⟩
    all_goals rw[ha.out]
    all_goals simp_all [zB]
   go_wp2_with fail
   refine (ai_ ln 0 100 _).mono ?_;rintro e w1 ⟨rfl,rfl⟩;generalize hC3:(decide (0<=ln)&&decide (ln<=100))=C3 at *;go_wp2
   all_goals go_returns
   all_goals go_light
   all_goals refine⟨ac_ ?_,by go_grown⟩
   all_goals rw[ha.out]
   all_goals simp_all [zB]
end
section
open Go Go.RowKit Go.BigFrame Tryz
variable{size:Nat}{w w':World}
theorem mb_ (vol file tt into:ByteArray)(at' fr ln:Int)(data:ByteArray)(w:World)(hs:Ds ⟨4,vol,file,tt,into,at',fr,ln,data⟩):
  Calls prog 63 #[.agg #[.int .i64 4,.string vol,.string file,.string tt,.string into,.int .i64 at',.int .i64 fr,.int .i64 ln,.string data]] w fun e w'=>e=.returned (.bool (opB ⟨4,vol,file,tt,into,at',fr,ln,data⟩))∧Below w.heap.size w w':=by
 have hv:=hs.vol;have hf:=hs.file;have ht:=hs.to;have hi:=hs.into;have hd:=hs.data;dsimp only at hv hf ht hi hd;clear hs
 have ha:Hid (opB ⟨4,vol,file,tt,into,at',fr,ln,data⟩=(nameB vol&&(nameB file&&((zB tt&&zB into)&&(at'==0&&(fr==0&&(ln==0&&zB data))))))):=by
  show _=_;simp[opB,ZO]
 generalize opB ⟨4,vol,file,tt,into,at',fr,ln,data⟩=R at *;go_enter func63,ntmps63
 go_upto_region 1 with fail
 go_cut [3] (fun s wc=>s=.bool (at'==0&&(fr==0&&(ln==0&&zB data)))∧wc=w.alloc (.cells #[.int .i64 4,.string vol,.string file,.string tt,.string into,.int .i64 at',.int .i64 fr,.int .i64 ln,.string data] 43))
 case first=>
  cases h1:(at'==0)
  case false=>
   go_wp2;go_meet;exact⟨by rw[h1];rfl,rfl⟩
  cases h2:(fr==0)
  case false=>
   go_wp2;go_meet;exact⟨by rw[h1,h2];rfl,rfl⟩
  cases h3:(ln==0)
  case false=>
   go_wp2;go_meet;exact⟨by rw[h1,h2,h3];rfl,rfl⟩
  go_wp2;go_meet;exact⟨by rw[h1,h2,h3];simp[zB],rfl⟩
 case rest=>
  obtain⟨rfl,rfl⟩:=hcut
  go_upto_region 2 with fail
  go_cut [4] (fun s wc=>s=.bool (zB tt&&zB into)∧wc=w.alloc (.cells #[.int .i64 4,.string vol,.string file,.string tt,.string into,.int .i64 at',.int .i64 fr,.int .i64 ln,.string data] 43))
  case first=>
   go_wp2
   all_goals go_meet
   all_goals (refine⟨?_,rfl⟩;simp_all [zB])
  case rest=>
   obtain⟨rfl,rfl⟩:=hcut;generalize hB:(at'==0&&(fr==0&&(ln==0&&zB data)))=B at *;generalize hT:(zB tt&&zB into)=T at *
   go_wp2_with fail
   refine (ai_ at' 0 100 _).mono ?_;rintro e w1 ⟨rfl,rfl⟩;generalize hC1:(decide (0<=at')&&decide (at'<=100))=C1
   go_wp2_with fail
   refine (ai_ ln 1 100 _).mono ?_;rintro e w1 ⟨rfl,rfl⟩;generalize hC2:(decide (1<=ln)&&decide (ln<=100))=C2
   go_wp2_with fail
   refine (aq_ vol _ hv).mono ?_;rintro e w1 ⟨rfl,rfl⟩
   cases hc:nameB vol
   case false=>
    go_wp2
    all_goals go_returns
    all_goals go_light
    all_goals refine⟨ac_ ?_,by go_grown⟩
    all_goals rw[ha.out]
    all_goals simp_all [zB]
   go_wp2_with fail
   refine (aq_ file _ hf).mono ?_;rintro e w1 ⟨rfl,rfl⟩
   cases hb:nameB file
   case false=>
    go_wp2
    all_goals go_returns
    all_goals go_light
    all_goals refine⟨ac_ ?_,by go_grown⟩
    all_goals rw[ha.out]
    all_goals simp_all [zB]
   go_wp2
   all_goals go_returns
   all_goals go_light
   all_goals refine⟨ac_ ?_,by go_grown⟩
   all_goals rw[ha.out]
   all_goals simp_all [zB]
theorem mc_ (vol file tt into:ByteArray)(at' fr ln:Int)(data:ByteArray)(w:World)(hs:Ds ⟨5,vol,file,tt,into,at',fr,ln,data⟩):
  Calls prog 63 #[.agg #[.int .i64 5,.string vol,.string file,.string tt,.string into,.int .i64 at',.int .i64 fr,.int .i64 ln,.string data]] w fun e w'=>e=.returned (.bool (opB ⟨5,vol,file,tt,into,at',fr,ln,data⟩))∧Below w.heap.size w w':=by
 have hv:=hs.vol;have hf:=hs.file;have ht:=hs.to;have hi:=hs.into;have hd:=hs.data;dsimp only at hv hf ht hi hd;clear hs
 have ha:Hid (opB ⟨5,vol,file,tt,into,at',fr,ln,data⟩=(nameB vol&&(nameB file&&(nameB tt&&(nameB into&&((decide (0<=at')&&decide (at'<=100))&&((decide (0<=fr)&&decide (fr<=100))&&((decide (1<=ln)&&decide (ln<=100))&&zB data)))))))):=by
  show _=_;simp[opB,inB,ZO]
 generalize opB ⟨5,vol,file,tt,into,at',fr,ln,data⟩=R at *;go_enter func63,ntmps63
 go_upto_region 1 with fail
 go_cut [3] (fun s wc=>s=.bool (at'==0&&(fr==0&&(ln==0&&zB data)))∧wc=w.alloc (.cells #[.int .i64 5,.string vol,.string file,.string tt,.string into,.int .i64 at',.int .i64 fr,.int .i64 ln,.string data] 43))
 case first=>
  cases h1:(at'==0)
  case false=>
   go_wp2;go_meet;exact⟨by rw[h1];rfl,rfl⟩
  cases h2:(fr==0)
  case false=>
   go_wp2;go_meet;exact⟨by rw[h1,h2];rfl,rfl⟩
  cases h3:(ln==0)
  case false=>
   go_wp2;go_meet;exact⟨by rw[h1,h2,h3];rfl,rfl⟩
  go_wp2;go_meet;exact⟨by rw[h1,h2,h3];simp[zB],rfl⟩
 case rest=>
  obtain⟨rfl,rfl⟩:=hcut
  go_upto_region 2 with fail
  go_cut [4] (fun s wc=>s=.bool (zB tt&&zB into)∧wc=w.alloc (.cells #[.int .i64 5,.string vol,.string file,.string tt,.string into,.int .i64 at',.int .i64 fr,.int .i64 ln,.string data] 43))
  case first=>
   go_wp2
   all_goals go_meet
   all_goals (refine⟨?_,rfl⟩;simp_all [zB])
  case rest=>
   obtain⟨rfl,rfl⟩:=hcut;generalize hB:(at'==0&&(fr==0&&(ln==0&&zB data)))=B;generalize hT:(zB tt&&zB into)=T
   go_wp2_with fail
   refine (ai_ at' 0 100 _).mono ?_;rintro e w1 ⟨rfl,rfl⟩;generalize hC1:(decide (0<=at')&&decide (at'<=100))=C1 at *
   go_wp2_with fail
   refine (ai_ ln 1 100 _).mono ?_;rintro e w1 ⟨rfl,rfl⟩;generalize hC2:(decide (1<=ln)&&decide (ln<=100))=C2 at *
   go_wp2_with fail
   refine (aq_ vol _ hv).mono ?_;rintro e w1 ⟨rfl,rfl⟩
   cases he:nameB vol
   case false=>
    go_wp2
    all_goals go_returns
    all_goals go_light
    all_goals refine⟨ac_ ?_,by go_grown⟩
    all_goals rw[ha.out]
    all_goals simp_all [zB]
   go_wp2_with fail
   refine (aq_ file _ hf).mono ?_;rintro e w1 ⟨rfl,rfl⟩
   cases hb:nameB file
   case false=>
    go_wp2
    all_goals go_returns
    all_goals go_light
    all_goals refine⟨ac_ ?_,by go_grown⟩
    all_goals rw[ha.out]
    all_goals simp_all [zB]
   go_wp2_with fail
   refine (aq_ tt _ ht).mono ?_;rintro e w1 ⟨rfl,rfl⟩
   cases hg:nameB tt
   case false=>
    go_wp2
    all_goals go_returns
    all_goals go_light
    all_goals refine⟨ac_ ?_,by go_grown⟩
    all_goals rw[ha.out]
    all_goals simp_all [zB]
   go_wp2_with fail
   refine (aq_ into _ hi).mono ?_;rintro e w1 ⟨rfl,rfl⟩
   cases hc:nameB into
   case false=>
    go_wp2
    all_goals go_returns
    all_goals go_light
    all_goals refine⟨ac_ ?_,by go_grown⟩
    all_goals rw[ha.out]
    all_goals simp_all [zB]
   cases C1
   case false=>
    go_wp2
    all_goals go_returns
    all_goals go_light
    all_goals refine⟨ac_ ?_,by go_grown⟩
    all_goals rw[ha.out]
    all_goals simp_all [zB]
   go_wp2_with fail
   refine (ai_ fr 0 100 _).mono ?_;rintro e w1 ⟨rfl,rfl⟩;generalize hC3:(decide (0<=fr)&&decide (fr<=100))=C3 at *;go_wp2
   all_goals go_returns
   all_goals go_light
   all_goals refine⟨ac_ ?_,by go_grown⟩
   all_goals rw[ha.out]
   all_goals simp_all [zB]
theorem md_ (vol file tt into:ByteArray)(at' fr ln:Int)(data:ByteArray)(w:World)(hs:Ds ⟨6,vol,file,tt,into,at',fr,ln,data⟩):
  Calls prog 63 #[.agg #[.int .i64 6,.string vol,.string file,.string tt,.string into,.int .i64 at',.int .i64 fr,.int .i64 ln,.string data]] w fun e w'=>e=.returned (.bool (opB ⟨6,vol,file,tt,into,at',fr,ln,data⟩))∧Below w.heap.size w w':=by
 have hv:=hs.vol;have hf:=hs.file;have ht:=hs.to;have hi:=hs.into;have hd:=hs.data;dsimp only at hv hf ht hi hd;clear hs
 have ha:Hid (opB ⟨6,vol,file,tt,into,at',fr,ln,data⟩=(nameB vol&&(zB file&&(nameB tt&&(zB into&&(at'==0&&(fr==0&&(ln==0&&zB data)))))))):=by
  show _=_;simp[opB,ZO,Bool.and_left_comm]
 generalize opB ⟨6,vol,file,tt,into,at',fr,ln,data⟩=R at *;go_enter func63,ntmps63
 go_upto_region 1 with fail
 go_cut [3] (fun s wc=>s=.bool (at'==0&&(fr==0&&(ln==0&&zB data)))∧wc=w.alloc (.cells #[.int .i64 6,.string vol,.string file,.string tt,.string into,.int .i64 at',.int .i64 fr,.int .i64 ln,.string data] 43))
 case first=>
  cases h1:(at'==0)
  case false=>
   go_wp2;go_meet;exact⟨by rw[h1];rfl,rfl⟩
  cases h2:(fr==0)
  case false=>
   go_wp2;go_meet;exact⟨by rw[h1,h2];rfl,rfl⟩
  cases h3:(ln==0)
  case false=>
   go_wp2;go_meet;exact⟨by rw[h1,h2,h3];rfl,rfl⟩
  go_wp2;go_meet;exact⟨by rw[h1,h2,h3];simp[zB],rfl⟩
 case rest=>
  obtain⟨rfl,rfl⟩:=hcut
  go_upto_region 2 with fail
  go_cut [4] (fun s wc=>s=.bool (zB tt&&zB into)∧wc=w.alloc (.cells #[.int .i64 6,.string vol,.string file,.string tt,.string into,.int .i64 at',.int .i64 fr,.int .i64 ln,.string data] 43))
  case first=>
   go_wp2
   all_goals go_meet
   all_goals (refine⟨?_,rfl⟩;simp_all [zB])
  case rest=>
   obtain⟨rfl,rfl⟩:=hcut;generalize hB:(at'==0&&(fr==0&&(ln==0&&zB data)))=B at *;generalize hT:(zB tt&&zB into)=T
   go_wp2_with fail
   refine (ai_ at' 0 100 _).mono ?_;rintro e w1 ⟨rfl,rfl⟩;generalize hC1:(decide (0<=at')&&decide (at'<=100))=C1
   go_wp2_with fail
   refine (ai_ ln 1 100 _).mono ?_;rintro e w1 ⟨rfl,rfl⟩;generalize hC2:(decide (1<=ln)&&decide (ln<=100))=C2
   go_wp2_with fail
   refine (aq_ vol _ hv).mono ?_;rintro e w1 ⟨rfl,rfl⟩
   cases hb:nameB vol
   case false=>
    go_wp2
    all_goals go_returns
    all_goals go_light
    all_goals refine⟨ac_ ?_,by go_grown⟩
    all_goals rw[ha.out]
    all_goals simp_all [zB]
   go_wp2_with fail
   refine (aq_ tt _ ht).mono ?_;rintro e w1 ⟨rfl,rfl⟩
   cases hc:nameB tt
   case false=>
    go_wp2
    all_goals go_returns
    all_goals go_light
    all_goals refine⟨ac_ ?_,by go_grown⟩
    all_goals rw[ha.out]
    all_goals simp_all [zB]
   go_wp2
   all_goals go_returns
   all_goals go_light
   all_goals refine⟨ac_ ?_,by go_grown⟩
   all_goals rw[ha.out]
   all_goals simp_all [zB]
theorem me_ (vol file tt into:ByteArray)(at' fr ln:Int)(data:ByteArray)(w:World)(hs:Ds ⟨7,vol,file,tt,into,at',fr,ln,data⟩):
  Calls prog 63 #[.agg #[.int .i64 7,.string vol,.string file,.string tt,.string into,.int .i64 at',.int .i64 fr,.int .i64 ln,.string data]] w fun e w'=>e=.returned (.bool (opB ⟨7,vol,file,tt,into,at',fr,ln,data⟩))∧Below w.heap.size w w':=by
 have hv:=hs.vol;have hf:=hs.file;have ht:=hs.to;have hi:=hs.into;have hd:=hs.data;dsimp only at hv hf ht hi hd;clear hs
 have ha:Hid (opB ⟨7,vol,file,tt,into,at',fr,ln,data⟩=(nameB vol&&(zB file&&((zB tt&&zB into)&&(at'==0&&(fr==0&&(ln==0&&zB data))))))):=by
  show _=_;simp[opB,ZO]
 generalize opB ⟨7,vol,file,tt,into,at',fr,ln,data⟩=R at *;go_enter func63,ntmps63
 go_upto_region 1 with fail
 go_cut [3] (fun s wc=>s=.bool (at'==0&&(fr==0&&(ln==0&&zB data)))∧wc=w.alloc (.cells #[.int .i64 7,.string vol,.string file,.string tt,.string into,.int .i64 at',.int .i64 fr,.int .i64 ln,.string data] 43))
 case first=>
  cases h1:(at'==0)
  case false=>
   go_wp2;go_meet;exact⟨by rw[h1];rfl,rfl⟩
  cases h2:(fr==0)
  case false=>
   go_wp2;go_meet;exact⟨by rw[h1,h2];rfl,rfl⟩
  cases h3:(ln==0)
  case false=>
   go_wp2;go_meet;exact⟨by rw[h1,h2,h3];rfl,rfl⟩
  go_wp2;go_meet;exact⟨by rw[h1,h2,h3];simp[zB],rfl⟩
 case rest=>
  obtain⟨rfl,rfl⟩:=hcut
  go_upto_region 2 with fail
  go_cut [4] (fun s wc=>s=.bool (zB tt&&zB into)∧wc=w.alloc (.cells #[.int .i64 7,.string vol,.string file,.string tt,.string into,.int .i64 at',.int .i64 fr,.int .i64 ln,.string data] 43))
  case first=>
   go_wp2
   all_goals go_meet
   all_goals (refine⟨?_,rfl⟩;simp_all [zB])
  case rest=>
   obtain⟨rfl,rfl⟩:=hcut;generalize hB:(at'==0&&(fr==0&&(ln==0&&zB data)))=B at *;generalize hT:(zB tt&&zB into)=T at *
   go_wp2_with fail
   refine (ai_ at' 0 100 _).mono ?_;rintro e w1 ⟨rfl,rfl⟩;generalize hC1:(decide (0<=at')&&decide (at'<=100))=C1
   go_wp2_with fail
   refine (ai_ ln 1 100 _).mono ?_;rintro e w1 ⟨rfl,rfl⟩;generalize hC2:(decide (1<=ln)&&decide (ln<=100))=C2
   go_wp2_with fail
   refine (aq_ vol _ hv).mono ?_;rintro e w1 ⟨rfl,rfl⟩
   cases hb:nameB vol
   case false=>
    go_wp2
    all_goals go_returns
    all_goals go_light
    all_goals refine⟨ac_ ?_,by go_grown⟩
    all_goals rw[ha.out]
    all_goals simp_all [zB]
   go_wp2
   all_goals go_returns
   all_goals go_light
   all_goals refine⟨ac_ ?_,by go_grown⟩
   all_goals rw[ha.out]
   all_goals simp_all [zB]
theorem mf_ (vol file tt into:ByteArray)(at' fr ln:Int)(data:ByteArray)(w:World)(hs:Ds ⟨8,vol,file,tt,into,at',fr,ln,data⟩):
  Calls prog 63 #[.agg #[.int .i64 8,.string vol,.string file,.string tt,.string into,.int .i64 at',.int .i64 fr,.int .i64 ln,.string data]] w fun e w'=>e=.returned (.bool (opB ⟨8,vol,file,tt,into,at',fr,ln,data⟩))∧Below w.heap.size w w':=by
 have hv:=hs.vol;have hf:=hs.file;have ht:=hs.to;have hi:=hs.into;have hd:=hs.data;dsimp only at hv hf ht hi hd;clear hs
 have ha:Hid (opB ⟨8,vol,file,tt,into,at',fr,ln,data⟩=(nameB vol&&(zB file&&((zB tt&&zB into)&&(at'==0&&(fr==0&&(ln==0&&zB data))))))):=by
  show _=_;simp[opB,ZO]
 generalize opB ⟨8,vol,file,tt,into,at',fr,ln,data⟩=R at *;go_enter func63,ntmps63
 go_upto_region 1 with fail
 go_cut [3] (fun s wc=>s=.bool (at'==0&&(fr==0&&(ln==0&&zB data)))∧wc=w.alloc (.cells #[.int .i64 8,.string vol,.string file,.string tt,.string into,.int .i64 at',.int .i64 fr,.int .i64 ln,.string data] 43))
 case first=>
  cases h1:(at'==0)
  case false=>
   go_wp2;go_meet;exact⟨by rw[h1];rfl,rfl⟩
  cases h2:(fr==0)
  case false=>
   go_wp2;go_meet;exact⟨by rw[h1,h2];rfl,rfl⟩
  cases h3:(ln==0)
  case false=>
   go_wp2;go_meet;exact⟨by rw[h1,h2,h3];rfl,rfl⟩
  go_wp2;go_meet;exact⟨by rw[h1,h2,h3];simp[zB],rfl⟩
 case rest=>
  obtain⟨rfl,rfl⟩:=hcut
  go_upto_region 2 with fail
  go_cut [4] (fun s wc=>s=.bool (zB tt&&zB into)∧wc=w.alloc (.cells #[.int .i64 8,.string vol,.string file,.string tt,.string into,.int .i64 at',.int .i64 fr,.int .i64 ln,.string data] 43))
  case first=>
   go_wp2
   all_goals go_meet
   all_goals (refine⟨?_,rfl⟩;simp_all [zB])
  case rest=>
   obtain⟨rfl,rfl⟩:=hcut;generalize hB:(at'==0&&(fr==0&&(ln==0&&zB data)))=B at *;generalize hT:(zB tt&&zB into)=T at *
   go_wp2_with fail
   refine (ai_ at' 0 100 _).mono ?_;rintro e w1 ⟨rfl,rfl⟩;generalize hC1:(decide (0<=at')&&decide (at'<=100))=C1
   go_wp2_with fail
   refine (ai_ ln 1 100 _).mono ?_;rintro e w1 ⟨rfl,rfl⟩;generalize hC2:(decide (1<=ln)&&decide (ln<=100))=C2
   go_wp2_with fail
   refine (aq_ vol _ hv).mono ?_;rintro e w1 ⟨rfl,rfl⟩
   cases hb:nameB vol
   case false=>
    go_wp2
    all_goals go_returns
    all_goals go_light
    all_goals refine⟨ac_ ?_,by go_grown⟩
    all_goals rw[ha.out]
    all_goals simp_all [zB]
   go_wp2
   all_goals go_returns
   all_goals go_light
   all_goals refine⟨ac_ ?_,by go_grown⟩
   all_goals rw[ha.out]
   all_goals simp_all [zB]
theorem mg_ (vol file tt into:ByteArray)(at' fr ln:Int)(data:ByteArray)(w:World)(hs:Ds ⟨9,vol,file,tt,into,at',fr,ln,data⟩):
  Calls prog 63 #[.agg #[.int .i64 9,.string vol,.string file,.string tt,.string into,.int .i64 at',.int .i64 fr,.int .i64 ln,.string data]] w fun e w'=>e=.returned (.bool (opB ⟨9,vol,file,tt,into,at',fr,ln,data⟩))∧Below w.heap.size w w':=by
 have hv:=hs.vol;have hf:=hs.file;have ht:=hs.to;have hi:=hs.into;have hd:=hs.data;dsimp only at hv hf ht hi hd;clear hs
 have ha:Hid (opB ⟨9,vol,file,tt,into,at',fr,ln,data⟩=(zB vol&&(zB file&&((zB tt&&zB into)&&(at'==0&&(fr==0&&(ln==0&&zB data))))))):=by
  show _=_;simp[opB,ZO]
 generalize opB ⟨9,vol,file,tt,into,at',fr,ln,data⟩=R at *;go_enter func63,ntmps63
 go_upto_region 1 with fail
 go_cut [3] (fun s wc=>s=.bool (at'==0&&(fr==0&&(ln==0&&zB data)))∧wc=w.alloc (.cells #[.int .i64 9,.string vol,.string file,.string tt,.string into,.int .i64 at',.int .i64 fr,.int .i64 ln,.string data] 43))
 case first=>
  cases h1:(at'==0)
  case false=>
   go_wp2;go_meet;exact⟨by rw[h1];rfl,rfl⟩
  cases h2:(fr==0)
  case false=>
   go_wp2;go_meet;exact⟨by rw[h1,h2];rfl,rfl⟩
  cases h3:(ln==0)
  case false=>
   go_wp2;go_meet;exact⟨by rw[h1,h2,h3];rfl,rfl⟩
  go_wp2;go_meet;exact⟨by rw[h1,h2,h3];simp[zB],rfl⟩
 case rest=>
  obtain⟨rfl,rfl⟩:=hcut
  go_upto_region 2 with fail
  go_cut [4] (fun s wc=>s=.bool (zB tt&&zB into)∧wc=w.alloc (.cells #[.int .i64 9,.string vol,.string file,.string tt,.string into,.int .i64 at',.int .i64 fr,.int .i64 ln,.string data] 43))
  case first=>
   go_wp2
   all_goals go_meet
   all_goals (refine⟨?_,rfl⟩;simp_all [zB])
  case rest=>
   obtain⟨rfl,rfl⟩:=hcut;generalize hB:(at'==0&&(fr==0&&(ln==0&&zB data)))=B at *;generalize hT:(zB tt&&zB into)=T at *
   go_wp2_with fail
   refine (ai_ at' 0 100 _).mono ?_;rintro e w1 ⟨rfl,rfl⟩;generalize hC1:(decide (0<=at')&&decide (at'<=100))=C1
   go_wp2_with fail
   refine (ai_ ln 1 100 _).mono ?_;rintro e w1 ⟨rfl,rfl⟩;generalize hC2:(decide (1<=ln)&&decide (ln<=100))=C2;go_wp2
   all_goals go_returns
   all_goals go_light
   all_goals refine⟨ac_ ?_,by go_grown⟩
   all_goals rw[ha.out]
   all_goals simp_all [zB]
end
end Go.Proofs.YtkiceokhlceciaaGreatDoor
