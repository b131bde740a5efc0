/- Plain facts for PoolOk of the program: sets of addresses; volumes by their names. -/
import Derived.Test.YteejlahappbalaaGreatDoorU10
set_option maxHeartbeats 20000000
set_option maxRecDepth 100000
namespace Go.Proofs.YteejlahappbalaaGreatDoor
section
open Go Go.RowKit Go.BigFrame Tryz
open Go.Maps (Keyed)
variable{s:ByteArray}
theorem hQ_ (B b pb po:Nat)(D:DataW Unit)(va:Option Addr)(vn:Nat)(vs:List Vo)(hpb:0<vn->va=some ⟨pb,po,none⟩)(w:World)(hO:w.ownsMap prog 9 (BL pb) b vn D)(hV:Jf D po vs)(hnd:(vs.map (·.nm.toList)).Nodup)(h2:Ek B w va vn vs)(ht:Ii vs)(hw:WfV vs):
  Calls prog 27 #[.map (some b)] w fun e w'=>(∃ a n cap,e=.returned (.slice a n cap)∧n<=480∧Ac Ct.cs 4 70 w' w.heap.size a n cap (A9 vs))∧Below w.heap.size w w':=by
 have qs:=@run_makeMap prog;have ha:Hid (vs.length=vn):=h2.len;have ql:=hO.lt;have q5:Maps.size D<=vn:=hO.size_le;obtain⟨t6,tv⟩:=ht;rw[ha.out] at t6;have hM:=Br.made w;have hJ:(w.alloc (.map #[] 0)).ownsMap prog 9 (BL pb) b vn D:=hO.alloc _;have hI:Below w.heap.size w (w.alloc (.map #[] 0)):=(Yg _ _).alloc (Zd _) _;have hS:(w.alloc (.map #[] 0)).heap.size=w.heap.size+1:=sK;have hY:∀ left o,0<=tot o (BI (Cz left vs))∧tot o (BI (Cz left vs))<=480:=fun left o=>by
  have h1:=cy_ (fZ_ (Cz left vs)) o;have h2:=iT_ (l:=Cz left vs) (fun v hv=>by have:=tv v (YG.1 hv).1;exact⟨this.1,fun x hx=>(this.2 x hx).1⟩);have h3:(Cz left vs).length<=vs.length:=Yc _ _;have h4:=ha.out;omega
 go_enter func27,ntmps27
 go_wp2_with (first
  |(at_range;refine wpList_range_own _ rfl _ 62 rfl 9 117 Ku underlying62 _ b vn D rfl hJ ?_;intro w0 hb hC hu)
  |go_in)
 rw[hS] at hb hu ⊢;go_frame;have T0:Br w0 w.heap.size 0 (fun _=>0):=hM.kept hC sK;have hf:Below w.heap.size w w0:=hI.grown hC sH (fun j hj=>by cases hj);clear hM hJ hI hS hC hO;go_loopw [11] (fun _ wr=>∃ (left:Lit->Bool) (cnt m:Nat),m+80*cnt<=80*vn∧(∀ kl,left kl=true->Maps.has D kl=true)∧wr.ranges prog 9 (BL pb) b (w.heap.size+1) vn D left cnt∧Br wr w.heap.size m (fun o=>tot o (BI (Cz left vs)))∧w.heap.size+2<=wr.heap.size∧Below w.heap.size w wr)
  (fun _ wr=>wr.rangeLeft b (w.heap.size+1))
 case atStart=>
  refine⟨_,_,0,sH,fun _ h=>h,hb,T0.congr (fun o=>?_),sH,hf⟩;rw[hL_ (fun v hv=>by unfold CZ;rw[hV.has];exact ZN.2 ⟨v,hv,sK⟩)];rfl
 case round=>
  clear hb T0 hf hu;obtain⟨left,cnt,m,qr,hp,hG,T,qi,hB⟩:=hrel
  go_wp2_with (first
   |(at_next;refine wpList_next_ranges _ rfl _ rfl 9 Ku (BL pb) Value.string (fun o:Nat=>Value.pointer (some ⟨pb,o,none⟩)) (fun key kl hk=>(by obtain⟨s,hs,_⟩:=f0_ hk;exact⟨s,hs⟩)) (fun v y h=>(by obtain⟨o,ho,_⟩:=eu_ h;exact⟨o,ho⟩)) b (w.heap.size+1) vn D left cnt rfl hG ?_ ?_)
   |go_in)
  ·intro qm h7;rw[iS_ h7] at T;go_wp2_with fail;refine (dG_ w.heap.size m _ wr T sH).mono ?_;rintro e w4 ⟨⟨a2,n2,cap2,R,rfl,q0,R4,q1,q2,q3,q4⟩,hU⟩;have hR:R=A9 vs:=g6_ q1 q2 q3 (fun o ho=>by rw[q4 o ho];simp[tot]) YT (fun c hc=>by simp at hc) (hO_ vs) (fun c hc=>by simp at hc) (hN_ hw);subst hR;have hW:=Aa hB hU;go_wp2;go_returns;exact⟨⟨a2,n2,cap2,rfl,sH,R4.mono hB.size⟩,hW⟩
  ·intro s o kl y yp w1 cnt1 hl hQ hL hN hm h8 hD hu h0;obtain rfl:kl=.string s.data.toList:=by
    obtain⟨s',e,e2⟩:=f0_ hl;injection e with e;rw[e,e2]
   obtain⟨i,v,hi,rfl,rfl⟩:=hP_ hV hnd (hp _ hQ) hL hN;have h6:i<vn:=by rw[<-ha.out];exact (Zb.1 hi).1
   have hz:=Zc hi;obtain⟨t1,t2⟩:=tv v hz;obtain⟨u1,u2⟩:=hw v hz;obtain⟨F,hr⟩:∃ F:Ow->Int,∀ o,F o=tot o (BI (Cz left vs)):=⟨_,fun _=>rfl⟩;have hh:∀ o,F o+tot o (BP v v.its)=tot o (BI (Cz (fun z=>left z&&!z.sameKey (.string v.nm.data.toList)) vs)):=fun o=>by rw[hr];exact (gn_ (left:=left) (v:=v) hQ hnd hz o).symm
   have hF:∀ o,0<=F o∧F o<=480:=fun o=>by rw[hr];exact hY left o
   have T1:Br w1 w.heap.size m F:=(T.kept hD sK).congr (fun o=>(hr o).symm);have hf:Below w.heap.size w w1:=hB.grown hD hB.size (fun j hj=>by cases hj;omega);obtain⟨b',o',x,qa,qn,qc,qb,hx,e0,e1,e2,e3,hP,_,_⟩:=b5_ h2 h6;obtain⟨rfl,rfl⟩:b'=pb∧o'=po:=by have:=hpb sH;rw[qb] at this;simpa using this
   obtain rfl:v=x:=by rw[hi] at hx;exact Zi hx
   have hK:Hid (v.its.length=qn):=hP.len;rw[hK.out] at t1;have hq:∀ kl,(left kl&&!kl.sameKey (.string v.nm.data.toList))=true->Maps.has D kl=true:=fun kl h=>hp kl (by simp at h;exact h.1);have hE:wr.rangeLeft b (w.heap.size+1)=cnt:=hG.left_eq;have e3':=Ab hf e3;obtain⟨wi,qf⟩:∃ x,x=wr:=⟨_,rfl⟩;subst qf;have hn:w.heap.size+2<=w1.heap.size:=sH;clear hl hL hN hD T hB hG hx hi e1 e2 e3 hr hu qi hz;go_wp2_with fail;go_loopw [20] (fun ix wq=>∃ (k:Nat),k<=qn∧ix=.int .i64 k∧Br wq w.heap.size (m+16*k) (fun o=>F o+tot o (BP v (v.its.take k)))∧wq.ranges prog 9 (BL b') b (w.heap.size+1) vn D (fun z=>left z&&!z.sameKey (.string v.nm.data.toList)) cnt1∧w.heap.size+2<=wq.heap.size∧Below w.heap.size w wq) (fun ix _=>qn-(intOf ix).toNat)
   case atStart=>exact⟨0,Zg _,rfl,T1.congr (fun o=>by simp[BP,tot]),hm,hn,hf⟩
   case round=>
    clear T1 hm hf hn e3' h0;obtain⟨k,hk,rfl,T2,he,hn,hg⟩:=hrel;by_cases hlk2:k<qn
    ·obtain⟨ib,io,x,pa,pn,pc,rfl,hx,c0,c1,hA,_,_,_⟩:=bO_ (hP.below hg) hlk2;have f0:=Ab hg e0;obtain⟨s1,_⟩:=t2 x (Zc hx);obtain⟨s2,s3⟩:=u2 x (Zc hx);rw[hA.len] at s1;have qp:(k:Int)<qn:=sH;have qq:(0:Int)<=k:=sH;have h5:Hid (BP v (v.its.take (k+1))=BP v (v.its.take k)++AX v.id x.nm x.ps):=fq_ hx;have hZ:∀ o,0<=tot o (BP v (v.its.take k))∧tot o (BP v (v.its.take k))<=1000:=fun o=>by
      have h1:=cy_ (ju_ v (v.its.take k)) o;have h2:=go_ (v:=v) (l:=v.its.take k) (fun y hy=>(t2 y (ZX hy)).1);have h3:(v.its.take k).length<=5:=dg;omega
     clear hx;have X:=Blk.new wr #[.string x.nm,.slice pa pn pc] 125;have gW:wr.grownBy (wr.alloc (.cells #[.string x.nm,.slice pa pn pc] 125)) (some w.heap.size):=Yl wr _ (some w.heap.size);have T3:Br (wr.alloc (.cells #[.string x.nm,.slice pa pn pc] 125)) w.heap.size (m+16*k) (fun o=>F o+tot o (BP v (v.its.take k))):=T2.kept (Yl wr _ none) sK;have f1:=Aj (.cells #[.string x.nm,.slice pa pn pc] 125) f0;have hX:BH (wr.alloc (.cells #[.string x.nm,.slice pa pn pc] 125)) pa pn x.ps:=hA.below sM;clear T2 f0 hA;go_wp2_with fail;have x0:=X.cell 0;have x1:=X.cell 1;simp only[lgA,lgB,lgC] at x0 x1;generalize wr.alloc (.cells #[.string x.nm,.slice pa pn pc] 125)=W at *;have y0:W.drew.cell? ⟨wr.heap.size,0,none⟩=some (.string x.nm):=x0;have y1:W.drew.cell? ⟨wr.heap.size,1,none⟩=some (.slice pa pn pc):=x1;have y2:W.drew.cell? ⟨b',o'+i*4,none⟩=some (.int .i64 v.id):=f1;refine aE_ 6 sI sI ?_;simp only[ZP,Yx,ZR,YC];(repeat still_step);refine wpStill_nil ?_;go_wp2_with fail;refine (fi_ w.heap.size (m+16*k) _ v.id x.nm pa pn pc x.ps W.drew T3 hX.drew u1 s2 s3 sH sH (fun o=>by have h1:=hF o;have h2:=hZ o;omega)).mono ?_;rintro e w3 ⟨rfl,T4,g4⟩;have g5:wr.grownBy w3 (some w.heap.size):=(gW.andThen (⟨rfl,rfl,rfl,Zd _,fun _ _ _=>rfl⟩:W.grownBy W.drew (some w.heap.size)) (fun j hj=>by cases hj;exact .inr rfl)).andThen g4 (fun j hj=>by cases hj;exact .inr rfl);have hH:=he.kept g5 sW sK;have hT:Below w.heap.size w w3:=hg.grown g5 hg.size (fun j hj=>by cases hj;exact Zd _);have h9:w.heap.size+2<=w3.heap.size:=Zl hn g5.size;have T5:Br w3 w.heap.size (m+16*(k+1)) (fun o=>F o+tot o (BP v (v.its.take (k+1)))):=(T4.mono sH).congr (fun o=>by rw[h5.out,bn_];omega);go_wp2;go_roundw
     case rel=>exact⟨k+1,sH,sQ,T5,hH,h9,hT⟩
     case measure=>simp[intOf];omega
    ·obtain rfl:k=qn:=sH;rw[Zk (Zm hK.out)] at T2;go_wp2;go_roundw
     case rel=>exact⟨_,cnt1,m+16*k,sH,hq,he,T2.congr hh,hn,hg⟩
     case measure=>rw[he.left_eq,hE];exact h8
end
section
open Go Go.RowKit Go.BigFrame Tryz
variable{size:Int}{e:List Ex}
theorem jv_ (a:Option Addr)(n cap:Nat)(l:List Ct)(a':Option Addr)(n' cap':Nat)(m:List Ct)(w:World)(h:A8 w a n l)(h':A8 w a' n' m)(hn:n<=4194304)(hn':n'<=4194304):
  Calls prog 26 #[.slice a n cap,.slice a' n' cap'] w fun e w'=>e=.returned (.bool (BU l m))∧Below w.heap.size w w':=by
 have qg:Hid (l.length=n):=h.len;have qM:Hid (m.length=n'):=h'.len;by_cases hne:n=n'
 ·subst hne;have ha:((n:Int) != (n:Int))=false:=sK;go_enter func26,ntmps26;go_wp2_with fail;go_loopw [13] (fun ix wr=>∃ (k:Nat),k<=n∧ix=.int .i64 k∧Hid (BU l m=BU (l.drop k) (m.drop k))∧Below w.heap.size w wr) (fun ix _=>n-(intOf ix).toNat)
  case atStart=>exact⟨0,Zg _,rfl,rfl,Yg _ _⟩
  case round=>
   exact lF
 ·have ha:((n:Int) != (n':Int))=true:=sN;go_enter func26,ntmps26;exact pS
theorem jw_ (size next:Int)(ea:Option Addr)(en ec:Nat)(va:Option Addr)(vn vc:Nat)(ra:Option Addr)(rn rc:Nat)(la:Option Addr)(ln lc:Nat)(ex:List Ex)(rf lt:List Ct)(w:World)(h1:Cg w ea en ex)(h3:A8 w ra rn rf)(h4:A8 w la ln lt)(z1:en<=4194304)(z3:rn<=200)(z4:ln<=200)(hx:∀ x∈ex,(Lit.int .i64 x.a).wf=true)(hc3:∀ c∈rf,(Lit.int .i64 c.o.a).wf=true)(hc4:∀ c∈lt,(Lit.int .i64 c.o.a).wf=true)(hnd:(ex.map (·.a)).Nodup):
  Calls prog 28 #[.agg #[.int .i64 size,.int .i64 next,.slice ea en ec,.slice va vn vc,.slice ra rn rc,.slice la ln lc]] w fun e w'=>e=.returned (.bool (DW ex (rf++lt)))∧Below w.heap.size w w':=by
 have hH:=@run_makeMap prog;have n1:Hid (ex.length=en):=h1.len;have n3:Hid (rf.length=rn):=h3.len;have n4:Hid (lt.length=ln):=h4.len;have hw:Hid (∀ K:List Lit,K.Nodup->(∀ k∈K,∃ c∈rf++lt,k=.int .i64 c.o.a)->(∀ c∈rf++lt,Lit.int .i64 c.o.a∈K)->(ex.all (fun x=>(rf++lt).any (fun c=>c.o.a==x.a))&&decide (K.length=ex.length))=DW ex (rf++lt)):=fun K h1 h2 h3=>nv_ hnd h1 h2 h3;have hu:Hid (ex.all (fun x=>(rf++lt).any (fun c=>c.o.a==x.a))=false->DW ex (rf++lt)=false):=fun h=>by unfold DW;rw[h];rfl
 generalize DW ex (rf++lt)=R at *;go_enter func28,ntmps28;have C:=(Blk.new w #[.int .i64 size,.int .i64 next,.slice ea en ec,.slice va vn vc,.slice ra rn rc,.slice la ln lc] 33);have ho:Below w.heap.size w (w.alloc (.cells #[.int .i64 size,.int .i64 next,.slice ea en ec,.slice va vn vc,.slice ra rn rc,.slice la ln lc] 33)):=sM;have ht:(w.alloc (.cells #[.int .i64 size,.int .i64 next,.slice ea en ec,.slice va vn vc,.slice ra rn rc,.slice la ln lc] 33)).heap.size=w.heap.size+1:=sK;go_wp2_with fail;generalize w.alloc (.cells #[.int .i64 size,.int .i64 next,.slice ea en ec,.slice va vn vc,.slice ra rn rc,.slice la ln lc] 33)=W0 at *;have hM:=Df.made W0;have C1:=C.alloc (.map #[] 0);have hq:Below w.heap.size w (W0.alloc (.map #[] 0)):=ho.alloc sH _;clear C ho;rw[ht] at hM;generalize W0.alloc (.map #[] 0)=W1 at *;clear ht;go_loopw [14] (fun ix wr=>∃ (k:Nat),k<=rn∧ix=.int .i64 k∧Df wr (w.heap.size+1) k (rf.take k)∧Blk wr w.heap.size #[.int .i64 size,.int .i64 next,.slice ea en ec,.slice va vn vc,.slice ra rn rc,.slice la ln lc] 33∧Below w.heap.size w wr) (fun ix _=>rn-(intOf ix).toNat)
 case atStart=>exact⟨0,Zg _,rfl,hM,C1,hq⟩
 case round=>
  clear hM C1 hq;obtain⟨k,hk,rfl,A,C,hB⟩:=hrel;by_cases hlt:k<rn
  ·obtain⟨b,o,p,rfl,hp,c0,c1,c2,c3⟩:=aN_ (h3.below hB) hlt;have hl:=hc3 p (Zc hp);have hr:(k:Int)<rn:=sH;have hs:(0:Int)<=k:=sH;have hC:(rf.take k).length<=200:=dg;have hh:Hid (rf.take k++[p]=rf.take (k+1)):=(bx_ hp).symm;have hm:=fY_ p.o.a (rf.take k);have gW:wr.grownBy (wr.alloc (.cells #[.int .i64 p.o.a,.int .i64 p.o.v,.string p.o.f,.int .i64 p.n] 70)) (some (w.heap.size+1)):=Yl wr _ _;have A1:Df (wr.alloc (.cells #[.int .i64 p.o.a,.int .i64 p.o.v,.string p.o.f,.int .i64 p.n] 70)) (w.heap.size+1) k (rf.take k):=A.kept (Yl wr _ none) sK;have z0:(wr.alloc (.cells #[.int .i64 p.o.a,.int .i64 p.o.v,.string p.o.f,.int .i64 p.n] 70)).cell? ⟨wr.heap.size,0,none⟩=some (.int .i64 p.o.a):=sK;have r1:=A1.look hl;obtain⟨w3,r2,A2,g2⟩:=A1.bump sO sH hl;have g3:wr.grownBy w3 (some (w.heap.size+1)):=gW.andThen g2 (fun j hj=>by cases hj;exact .inr rfl);have hc:Below w.heap.size w w3:=hB.grown g3 hB.size (fun j hj=>by cases hj;omega);have C3:Blk w3 w.heap.size #[.int .i64 size,.int .i64 next,.slice ea en ec,.slice va vn vc,.slice (some ⟨b,o,none⟩) rn rc,.slice la ln lc] 33:=(g3.block _ C.lt sW).trans C;rw[hh.out] at A2;clear hp A A1 hh;generalize Gz p.o.a (rf.take k)=Z at *;obtain⟨hy,hA⟩:=hm;go_wp2;go_roundw
   case rel=>exact⟨k+1,sH,sQ,A2,C3,hc⟩
   case measure=>simp[intOf];omega
  ·obtain rfl:k=rn:=sH;rw[Zk (Zm n3.out)] at A;have d5:=C.cell 5;simp only[lgA,lgB,lgC] at d5;obtain⟨wi,hD⟩:∃ x,x=wr:=⟨_,rfl⟩;subst hD;go_wp2_with fail;go_loopw [28] (fun ix wr=>∃ (j:Nat),j<=ln∧ix=.int .i64 j∧Df wr (w.heap.size+1) (k+j) (rf++lt.take j)∧Blk wr w.heap.size #[.int .i64 size,.int .i64 next,.slice ea en ec,.slice va vn vc,.slice ra k rc,.slice la ln lc] 33∧Below w.heap.size w wr) (fun ix _=>ln-(intOf ix).toNat)
   case atStart=>exact⟨0,Zg _,rfl,by simpa using A,C,hB⟩
   case round=>
    clear A C hB d5;obtain⟨j,hj,rfl,A,C,hB⟩:=hrel;by_cases hlt2:j<ln
    ·obtain⟨b,o,p,rfl,hp,c0,c1,c2,c3⟩:=aN_ (h4.below hB) hlt2;have hl:=hc4 p (Zc hp);have hr:(j:Int)<ln:=sH;have hs:(0:Int)<=j:=sH;have hC:(rf++lt.take j).length<=400:=by rw[ZE,Zz,n3.out];omega
     have hh:Hid (rf++lt.take j++[p]=rf++lt.take (j+1)):=by show _=_;rw[bx_ hp,ZC]
     have hm:=fY_ p.o.a (rf++lt.take j);have gW:wr.grownBy (wr.alloc (.cells #[.int .i64 p.o.a,.int .i64 p.o.v,.string p.o.f,.int .i64 p.n] 70)) (some (w.heap.size+1)):=Yl wr _ _;have A1:Df (wr.alloc (.cells #[.int .i64 p.o.a,.int .i64 p.o.v,.string p.o.f,.int .i64 p.n] 70)) (w.heap.size+1) (k+j) (rf++lt.take j):=A.kept (Yl wr _ none) sK;have z0:(wr.alloc (.cells #[.int .i64 p.o.a,.int .i64 p.o.v,.string p.o.f,.int .i64 p.n] 70)).cell? ⟨wr.heap.size,0,none⟩=some (.int .i64 p.o.a):=sK;have r1:=A1.look hl;obtain⟨w3,r2,A2,g2⟩:=A1.bump sO sH hl;have g3:wr.grownBy w3 (some (w.heap.size+1)):=gW.andThen g2 (fun j hj=>by cases hj;exact .inr rfl);have hc:Below w.heap.size w w3:=hB.grown g3 hB.size (fun j hj=>by cases hj;omega);have C3:Blk w3 w.heap.size #[.int .i64 size,.int .i64 next,.slice ea en ec,.slice va vn vc,.slice ra k rc,.slice (some ⟨b,o,none⟩) ln lc] 33:=(g3.block _ C.lt sW).trans C;rw[hh.out] at A2;clear hp A A1 hh;generalize Gz p.o.a (rf++lt.take j)=Z at *;obtain⟨hy,hA⟩:=hm;go_wp2;go_roundw
     case rel=>exact⟨j+1,sH,sQ,A2,C3,hc⟩
     case measure=>simp[intOf];omega
    ·obtain rfl:j=ln:=sH;rw[Zk (Zm n4.out)] at A;have d2:=C.cell 2;simp only[lgA,lgB,lgC] at d2;obtain⟨wj,hE⟩:∃ x,x=wr:=⟨_,rfl⟩;subst hE;go_wp2_with fail;go_loopw [42] (fun ix wr=>∃ (i:Nat),i<=en∧ix=.int .i64 i∧Hid (ex.all (fun x=>(rf++lt).any (fun c=>c.o.a==x.a))=(ex.drop i).all (fun x=>(rf++lt).any (fun c=>c.o.a==x.a)))∧Df wr (w.heap.size+1) (k+j) (rf++lt)∧Blk wr w.heap.size #[.int .i64 size,.int .i64 next,.slice ea en ec,.slice va vn vc,.slice ra k rc,.slice la j lc] 33∧Below w.heap.size w wr) (fun ix _=>en-(intOf ix).toNat)
     case atStart=>exact⟨0,Zg _,rfl,rfl,A,C,hB⟩
     case round=>
      clear A C hB d2;obtain⟨i,hi,rfl,hI,A,C,hB⟩:=hrel;by_cases hlt3:i<en
      ·obtain⟨b,o,x,rfl,hn,c0,c1⟩:=be_ (h1.below hB) hlt3;have hF:=hx x (Zc hn);have hd:Hid (ex.drop i=x::ex.drop (i+1)):=al_ hn;have hr:(i:Int)<en:=sH;have hs:(0:Int)<=i:=sH;clear hn;have A1:Df (wr.alloc (.cells #[.int .i64 x.a,.string x.d] 111)) (w.heap.size+1) (k+j) (rf++lt):=A.kept (Yl wr _ none) sK;have z0:(wr.alloc (.cells #[.int .i64 x.a,.string x.d] 111)).cell? ⟨wr.heap.size,0,none⟩=some (.int .i64 x.a):=sK;have C3:=C.alloc (.cells #[.int .i64 x.a,.string x.d] 111);have hc:Below w.heap.size w (wr.alloc (.cells #[.int .i64 x.a,.string x.d] 111)):=hB.alloc hB.size _;have r1:=A1.look hF;have hz:=nw_ x.a (rf++lt);have hm:=fY_ x.a (rf++lt);generalize Gz x.a (rf++lt)=Z at *
       cases ha:(rf++lt).any (fun c=>c.o.a==x.a)
       ·rw[ha] at hz;replace hz:(Z==0)=true:=hz;have hf:R=false:=hu.out (by rw[hI.out,hd.out,List.all_cons,ha];rfl);clear ha;go_wp2;go_returns;exact⟨by rw[hf];rfl,hc⟩
       ·rw[ha] at hz;replace hz:(Z==0)=false:=hz;have hv:Hid (ex.all (fun x=>(rf++lt).any (fun c=>c.o.a==x.a))=(ex.drop (i+1)).all (fun x=>(rf++lt).any (fun c=>c.o.a==x.a))):=by show _=_;rw[hI.out,hd.out,List.all_cons,ha];rfl
        clear ha;go_wp2;go_roundw
        case rel=>exact⟨i+1,sH,sQ,hv,A1,C3,hc⟩
        case measure=>simp[intOf];omega
      ·obtain rfl:i=en:=sH;have he:ex.all (fun x=>(rf++lt).any (fun c=>c.o.a==x.a))=true:=by rw[hI.out,Ze (Zm n1.out)];rfl
       obtain⟨K,hK,hG,k1,k2,k3⟩:=A.len 3;have hb:=hw.out K k1 k2 k3;rw[he,Zp,n1.out] at hb;have d2:=C.cell 2;simp only[lgA,lgB,lgC] at d2;have hg:Hid (((K.length:Int)==(i:Int))=R):=by
        show _=_;rw[<-hb,YH];simp only[beq_iff_eq,ZU];omega
       clear hb he hI;go_wp2;go_returns;exact⟨by rw[<-hg.out];rfl,hB⟩
theorem ny_ {P:Program}{k:TypeId}{R:Value->Option (DataW Unit×List MemPlace)}{w w':World}{b n:Nat}{D:DataW Unit}(h:w.ownsMap P k R b n D)(hb:Below w.heap.size w w'):w'.ownsMap P k R b n D:=by
 have ha:=h.lt;obtain⟨es,clock,h1,r⟩:=h;exact⟨es,clock,(hb.block b ha).trans h1,r⟩
theorem iV_:∀ {l:List Ex} {next:Int},0<=next->size<=400->xgo size next l=true->∀ x∈l,0<=x.a∧x.a<=400
 |[],_,_,_,_,_,hx=>by simp at hx
 |e::r,next,h0,hs,h,x,hx=>by
  simp only[xgo,Zf,ZU] at h;obtain⟨⟨⟨h1,h2⟩,h3⟩,h4⟩:=h
  have hd:1<=e.d.size:=by
   simp only[At,Zf,ZU] at h1;exact h1.1.1
  rcases Zn.1 hx with rfl | hx
  ·omega
  ·exact iV_ sH hs h4 x hx
theorem kI_ {l:List Ex}(h:Af size l=true):∀ x∈l,(Lit.int .i64 x.a).wf=true:=fun x hx=>by
 simp only[Af,Zf,ZU] at h
 have:=iV_ sH h.1.1.2 h.2 x hx
 exact Yz sH
theorem oz_ {ps:List Pt}(h:(Ax ps e).isSome=true):∀ p∈ps,(Lit.int .i64 p.a).wf=true:=fun p hp=>by
 have hk:Ae ps=true:=by
  unfold Ax at h;split at h
  ·rename_i hh;exact hh.1
  ·cases h
 obtain⟨_,q2,_⟩:=ae_ hk;have:=q2 p hp;unfold Al at this;split at this
 ·rename_i h0;have:p.a=0:=by simpa using h0
  exact Yz sH
 ·simp only[Zf,ZU] at this;exact Yz sH
theorem lU_ {s:ByteArray}(h:nameB s=true):s.size<=maxLen:=by
 simp only[nameB,Zf,ZU] at h;unfold maxLen;omega
theorem oA_ {next:Int}{l:List Vo}(hn:next<=1000000000)(h:vgo next e 0 l=true):WfV l:=by
 intro v hv;obtain⟨h1,h2,h3,h4⟩:=b0_ h v hv;refine⟨Yz sH,fun x hx=>?_⟩;simp only[itemsB,Zf] at h1;exact⟨lU_ (hR_ h1.2 x hx),oz_ (db_ h1.2 x hx)⟩
theorem ch_ (B:Nat)(v:Value)(p:Po)(w:World)(h:AC B w v p)(hd:A7 p):
  Calls prog 10 #[v] w fun e w'=>e=.returned (.bool (Ai p))∧Below w.heap.size w w':=by
 obtain⟨ea,en,ec,va,vn,vc,ra,rn,rc,la,ln,lc,rfl,⟨h1,k1⟩,⟨h2,k2⟩,⟨h3,k3⟩,h4,k4⟩:=h;obtain⟨z1,z2,z3,z4,z5,z6,z7,z8⟩:=hd;rw[h1.len] at z1;rw[h2.len] at z3;rw[h3.len] at z5;rw[h4.len] at z7;have n2:Hid (p.vs.length=vn):=h2.len;have n3:Hid (p.rf.length=rn):=h3.len;have n4:Hid (p.lt.length=ln):=h4.len;obtain⟨size,next,ex,vs,rf,lt⟩:=p;simp only at h1 h2 h3 h4 z2 z4 z6 z8 n2 n3 n4;obtain⟨pb,po,hu⟩:∃ pb po,0<vn->va=some ⟨pb,po,none⟩:=by
  by_cases h0:0<vn
  ·obtain⟨b,o,_,_,_,_,hv,_⟩:=b5_ h2 h0;exact⟨b,o,fun _=>hv⟩
  ·exact⟨0,0,fun h=>absurd h h0⟩
 have hR:Hid (Ai ⟨size,next,ex,vs,rf,lt⟩=(Af size ex&&decide (1<=next)&&decide (next<=1000000000)&&Fj next vs ex&&ET vs&&(match As rf lt with | none=>false | some s=>BU s (A9 vs))&&DW ex (rf++lt))):=rfl;generalize Ai ⟨size,next,ex,vs,rf,lt⟩=R at *;have C:=(Blk.new w #[.int .i64 size,.int .i64 next,.slice ea en ec,.slice va vn vc,.slice ra rn rc,.slice la ln lc] 33);have hm:Below w.heap.size w (w.alloc (.cells #[.int .i64 size,.int .i64 next,.slice ea en ec,.slice va vn vc,.slice ra rn rc,.slice la ln lc] 33)):=sM
 cases hl:Af size ex
 ·rw[hl] at hR;simp only[Zr] at hR;go_enter func10,ntmps10;go_wp2_with fail;generalize w.alloc (.cells #[.int .i64 size,.int .i64 next,.slice ea en ec,.slice va vn vc,.slice ra rn rc,.slice la ln lc] 33)=W0 at *;refine (a8_ size ea en ec ex _ (h1.below hm) z2 z1).mono ?_;rintro e w1 ⟨rfl,qe⟩;rw[hl];go_wp2;go_returns;exact⟨rG,Aa hm qe⟩
 ·rw[hl,Zp] at hR;go_enter func10,ntmps10;go_wp2_with fail;generalize w.alloc (.cells #[.int .i64 size,.int .i64 next,.slice ea en ec,.slice va vn vc,.slice ra rn rc,.slice la ln lc] 33)=W0 at *;refine (a8_ size ea en ec ex _ (h1.below hm) z2 z1).mono ?_;rintro e w1 ⟨rfl,qe⟩;rw[hl];have C1:=C.below qe;replace qe:=Aa hm qe;clear C hm;have d0:=C1.cell 0;have d1:=C1.cell 1;have d2:=C1.cell 2;have d3:=C1.cell 3;have d4:=C1.cell 4;have d5:=C1.cell 5;simp only[lgA,lgB,lgC] at d0 d1 d2 d3 d4 d5;by_cases hn1:1<=next
  ·rw[decide_eq_true hn1,Zp] at hR;by_cases hn2:next<=1000000000
   ·rw[decide_eq_true hn2,Zp] at hR;have hn:Hid (Fj next vs ex=true->vs.length<=6∧vgo next ex 0 vs=true):=fun h=>by simpa[Fj] using h
    go_wp2_with fail;refine (kC_ B size next ea en ec va vn vc ra rn rc la ln lc ex vs _ (h1.below qe) (h2.below qe) z1 z2 z3 z4).mono ?_;rintro e w2 ⟨rfl,hg⟩;have C2:=C1.below hg;replace hg:=Aa qe hg;clear d0 d1 d2 d3 d4 d5 C1 qe;have d0:=C2.cell 0;have d1:=C2.cell 1;have d2:=C2.cell 2;have d3:=C2.cell 3;have d4:=C2.cell 4;have d5:=C2.cell 5;simp only[lgA,lgB,lgC] at d0 d1 d2 d3 d4 d5
    cases ho:Fj next vs ex
    ·rw[ho] at hR;simp only[Zr] at hR;clear ho;go_wp2;go_returns;exact⟨rG,hg⟩
    ·obtain⟨h6,hy⟩:=hn.out ho;rw[ho,Zp] at hR;have hD:=g2_ h6 hy;have hE:=oA_ hn2 hy;clear ho hn;go_wp2_with fail;refine (bC_ B size next ea en ec va vn vc ra rn rc la ln lc vs pb po hu _ (h2.below hg) z3 z4).mono ?_;rintro e w3 ⟨⟨mb,D,rfl,hF,hO,hV⟩,hb⟩;have C3:=C2.below hb;replace hb:=Aa hg hb;clear d0 d1 d2 d3 d4 d5 C2 hg;have d3:=C3.cell 3;have d4:=C3.cell 4;have d5:=C3.cell 5;simp only[lgA,lgB,lgC] at d3 d4 d5;have hs:=hO.len underlying62 3;have hp:=hV.full;have hx:=hV.size;rw[n2.out] at hp hx;have ht:Hid (ET vs=decide (Maps.size D=vn)):=by show _=_;unfold ET;rw[decide_eq_decide];exact hp.symm
     rw[ht.out] at hR;by_cases hse:Maps.size D=vn
     ·rw[decide_eq_true hse,Zp] at hR;have hnd:=hp.1 hse;rw[hse] at hs;have hA:((vn:Int) != (vn:Int))=false:=sK;clear hp hx ht hse;go_wp2_with fail;refine (fX_ ra rn rc rf la ln lc lt _ (h3.below hb) (h4.below hb) z6 z8 z5 z7).mono ?_;rintro e w4 ⟨ha,he⟩;have C4:=C3.below he;replace hO:=ny_ hO he;replace he:=Aa hb he;clear d3 d4 d5 C3 hb hs
      cases hj:As rf lt with
      |none=>
       rw[hj] at ha hR;replace ha:e=.returned (.tuple #[.slice none 0 0,.bool false]):=ha;subst ha;clear hj;go_wp2;go_returns;exact⟨rG,he⟩
      |some sm=>
       rw[hj] at ha hR;replace hR:Hid (R=(BU sm (A9 vs)&&DW ex (rf++lt))):=hR;obtain⟨a4,n4',cap4,rfl,hG,R4⟩:=ha;have hq:AB rf=true∧AQ lt=true:=by
        unfold As at hj;split at hj
        ·rename_i hh;exact hh
        ·cases hj
       clear hj;go_wp2_with fail;refine (hQ_ B mb pb po D va vn vs hu _ hO hV hnd (h2.below he) hD hE).mono ?_;rintro e w5 ⟨⟨a5,n5,cap5,rfl,hH,R5⟩,hk⟩;replace R4:=R4.below hk;have C5:=C4.below hk;replace hk:=Aa he hk;clear C4 he hO;go_wp2_with fail;refine (jv_ a4 n4' cap4 sm a5 n5 cap5 (A9 vs) _ R4.sl R5.sl sH sH).mono ?_;rintro e w6 ⟨rfl,hf⟩;have C6:=C5.below hf;replace hf:=Aa hk hf;clear R4 R5 C5 hk;have d0:=C6.cell 0;have d1:=C6.cell 1;have d2:=C6.cell 2;have d3:=C6.cell 3;have d4:=C6.cell 4;have d5:=C6.cell 5;simp only[lgA,lgB,lgC] at d0 d1 d2 d3 d4 d5
       cases hM:BU sm (A9 vs)
       ·rw[hM] at hR;simp only[Zr] at hR;clear hM;go_wp2;go_returns;exact⟨rG,hf⟩
       ·rw[hM,Zp] at hR;have hC:=(jt_ hq.1).1;have hB:=(mP_ hq.2).1;have hw:=(a0_ hq.1).1;have hr:=(br_ hq.2).1;rw[n3.out] at hw;rw[n4.out] at hr;clear hM;go_wp2_with fail;refine (jw_ size next ea en ec va vn vc ra rn rc la ln lc ex rf lt _ (h1.below hf) (h3.below hf) (h4.below hf) z1 hw hr (kI_ hl) (fun c hc=>(hC c hc).a) (fun c hc=>(hB c hc).a) (kH_ hl)).mono ?_;rintro e w7 ⟨rfl,hz⟩;go_wp2;go_returns;exact⟨rG,Aa hf hz⟩
     ·rw[YV hse] at hR;simp only[Zr] at hR;have hA:((Maps.size D:Int) != (vn:Int))=true:=sN;go_wp2;go_returns;exact⟨rG,hb⟩
   ·rw[YV hn2] at hR;simp only[Zr] at hR;exact pP
  ·rw[YV hn1] at hR;simp only[Zr] at hR;exact pP
end
end Go.Proofs.YteejlahappbalaaGreatDoor
