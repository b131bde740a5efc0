/- Plain facts for PoolOk of the program: sets of addresses; volumes by their names. -/
import Derived.Test.YtkiceokhlceciaaGreatDoorU16
set_option maxHeartbeats 20000000
set_option maxRecDepth 100000
namespace Go.Proofs.YtkiceokhlceciaaGreatDoor
section
open Go Go.RowKit Go.BigFrame
theorem fi_ (b m:Nat)(f:Ow->Int)(id:Int)(nm:ByteArray)(pa:Option Addr)(pn pc:Nat)(ps:List Pt)(w:World)(hT:Bo w b m f)(h:BI w pa pn ps)(hid:(Lit.int .i64 id).wf=true)(hnm:nm.size<=maxLen)(hps:∀ p∈ps,(Lit.int .i64 p.a).wf=true)(hn:pn<=1000000)(hm:m<=1000000)(hf:∀ o,-1000000000000<=f o∧f o<=1000000000000):
  Calls Tryz.prog 119 #[.map (some b),.int .i64 id,.agg #[.string nm,.slice pa pn pc]] w fun e w'=>e=.returned (.tuple #[])∧Bo w' b (m+pn) (fun o=>f o+tot o (AU id nm ps))∧w.grownBy w' (some b):=by
 have hg:Hid (ps.length=pn):=h.len;go_enter Tryz.func119,Tryz.ntmps119;have C:=(Blk.new w #[.string nm,.slice pa pn pc] 122);have hl:w.grownBy (w.alloc (.cells #[.string nm,.slice pa pn pc] 122)) (some b):=Yl w _ (some b);have T0:Bo (w.alloc (.cells #[.string nm,.slice pa pn pc] 122)) b m f:=hT.kept (Yl w _ none) (by simp);have hw:=hT.lt
 go_wp2_with fail
 generalize w.alloc (.cells #[.string nm,.slice pa pn pc] 122)=W0 at *
 go_loopw [11] (fun ix wr=>∃ (k:Nat),k<=pn∧ix=.int .i64 k∧Bo wr b (m+k) (fun o=>f o+tot o (AU id nm (ps.take k)))∧Blk wr w.heap.size #[.string nm,.slice pa pn pc] 122∧w.grownBy wr (some b)) (fun ix _=>pn-(intOf ix).toNat)
 case atStart=>exact⟨0,Zg _,rfl,T0.congr (fun o=>by simp[AU,tot]),C,hl⟩
 case round=>
  clear C hl T0;obtain⟨k,hk,rfl,T2,C,hG⟩:=hrel;by_cases hlt:k<pn
  ·obtain⟨bb,oo,p,rfl,hp,c0,c1,c2⟩:=bi_ h hlt;have hc:=hT.apart c0;have d0:=hG.cell c0 (by simpa using hc);have d1:=hG.cell c1 (by simpa using hc);have d2:=hG.cell c2 (by simpa using hc);have ht:=hps p (Zc hp);have ha:Hid (AU id nm (ps.take (k+1))=AU id nm (ps.take k)++(if p.a==0 then [] else [⟨⟨p.a,id,nm⟩,1⟩])):=gI_ hp;have hB:=fw_ id nm (ps.take k);have hb:=cy_ (iU_ id nm (ps.take k));have hA:(ps.take k).length<=pn:=by rw[Zz];omega
   have hx:(k:Int)<pn:=by omega
   have hy:(0:Int)<=k:=by omega
   clear c0 c1 c2 hp;have he:w.grownBy (wr.alloc (.cells #[.int .i64 p.a,.int .i64 p.f,.int .i64 p.n] 124)) (some b):=hG.andThen (Yl wr _ (some b)) (fun j hj=>by cases hj;exact .inr rfl);have T3:Bo (wr.alloc (.cells #[.int .i64 p.a,.int .i64 p.f,.int .i64 p.n] 124)) b (m+k) (fun o=>f o+tot o (AU id nm (ps.take k))):=T2.kept (Yl wr _ none) (by simp);have z0:(wr.alloc (.cells #[.int .i64 p.a,.int .i64 p.f,.int .i64 p.n] 124)).cell? ⟨wr.heap.size,0,none⟩=some (.int .i64 p.a):=by simp
   have C3:=C.alloc (.cells #[.int .i64 p.a,.int .i64 p.f,.int .i64 p.n] 124);clear T2 C
   cases hz:(p.a==0)
   ·have hr:(p.a != 0)=true:=by simp[bne,hz]
    rw[hz] at ha;simp only[Zj,if_false] at ha
    go_wp2_with fail
    generalize wr.alloc (.cells #[.int .i64 p.a,.int .i64 p.f,.int .i64 p.n] 124)=W at *;have T4:Bo W.drew b (m+k) (fun o=>f o+tot o (AU id nm (ps.take k))):=T3;have q0:W.drew.cell? ⟨wr.heap.size,0,none⟩=some (.int .i64 p.a):=z0;have q1:W.drew.cell? ⟨w.heap.size,0,none⟩=some (.string nm):=C3.cell 0;have hs:WfO ⟨p.a,id,nm⟩:=⟨ht,hid,hnm⟩;obtain⟨st,w1,e1,e2,e3,g1,e4⟩:=T4.entry (by unfold maxLen;omega) hs
    have hC:-3000000000000<=f ⟨p.a,id,nm⟩+tot ⟨p.a,id,nm⟩ (AU id nm (ps.take k))∧f ⟨p.a,id,nm⟩+tot ⟨p.a,id,nm⟩ (AU id nm (ps.take k))<=3000000000000:=by
     have h1:=hf ⟨p.a,id,nm⟩;have h2:=hb ⟨p.a,id,nm⟩;omega
    obtain⟨w3,e5,T5,g3⟩:=e4 (f ⟨p.a,id,nm⟩+tot ⟨p.a,id,nm⟩ (AU id nm (ps.take k))+1) (Yz (by omega))
    have ho:Bo w3 b (m+(k+1)) (fun o=>f o+tot o (AU id nm (ps.take (k+1)))):=T5.congr (fun o=>by
     rw[ha.out,bn_];simp only[tot];split
     ·rename_i hh;rw[aM_.1 hh];omega
     ·omega)
    have hq:w.grownBy w3 (some b):=(he.andThen (row':=some b) (⟨rfl,rfl,rfl,Zd _,fun _ _ _=>rfl⟩:W.grownBy W.drew (some b)) (fun j hj=>by cases hj;exact .inr rfl)).andThen (row':=some b) g3 (fun j hj=>by cases hj;exact .inr rfl);have C5:Blk w3 w.heap.size #[.string nm,.slice (some ⟨bb,oo,none⟩) pn pc] 122:=(g3.block _ C3.lt (by simp only[ne_eq,Zo];omega)).trans C3;clear e4 T4 T3 T5 C3 d0 d1 d2 ha hb he;generalize f ⟨p.a,id,nm⟩+tot ⟨p.a,id,nm⟩ (AU id nm (ps.take k))=Z at *;obtain⟨hu,hv⟩:=hC
    go_region
    go_wp2;go_roundw
    case rel=>exact⟨k+1,by omega,by go_num,ho,C5,hq⟩
    case measure=>simp[intOf];omega
   ·have hr:(p.a != 0)=false:=by simp[bne,hz]
    rw[hz] at ha;simp only[if_true,Yy] at ha;have T4:Bo (wr.alloc (.cells #[.int .i64 p.a,.int .i64 p.f,.int .i64 p.n] 124)) b (m+(k+1)) (fun o=>f o+tot o (AU id nm (ps.take (k+1)))):=(T3.mono (by omega)).congr (fun o=>by rw[ha.out]);go_wp2;go_roundw
    case rel=>exact⟨k+1,by omega,by go_num,T4,C3,he⟩
    case measure=>simp[intOf];omega
  ·obtain rfl:k=pn:=by omega
   go_wp2;go_returns;refine⟨rfl,?_,hG⟩;rw[Zk (by rw[hg.out];exact Zd _)] at T2;exact T2
end
section
open Go Go.RowKit Go.BigFrame Tryz
open Go.Maps (Keyed)
variable{s:ByteArray}
def WfV (l:List Vo):Prop:=∀ v∈l,(Lit.int .i64 v.id).wf=true∧∀ x∈v.its,x.nm.size<=maxLen∧∀ p∈x.ps,(Lit.int .i64 p.a).wf=true
theorem hN_ {l:List Vo}(h:WfV l):WfC (BP l):=by
 intro c hc;obtain⟨v,hv,hc⟩:=ZL.1 hc;obtain⟨x,hx,hc⟩:=ZL.1 hc;obtain⟨p,hp,rfl⟩:=ZT.1 hc;obtain⟨h1,h2⟩:=h v hv;obtain⟨h3,h4⟩:=h2 x hx;exact⟨h4 p (YG.1 hp).1,h1,h3⟩
theorem hO_ (l:List Vo):BO (BP l):=fun c hc=>by rw[fZ_ l c hc];decide
theorem p3_ {t:ByteArray}(h:s.data.toList=t.data.toList):s=t:=by
 cases s;cases t;simp at h;rw[h]
theorem f0_ {v:Value}{kl:Lit}(h:keyOf prog 9 v=some kl):∃ s:ByteArray,v=.string s∧kl=.string s.data.toList:=by
 cases v<;>simp[keyOf,underlying9,mapKey] at h
 exact⟨_,rfl,h.2.symm⟩
theorem hP_ {D:DataW Unit}{po pb:Nat}{vs:List Vo}(hV:Gz D po vs)(hn:(vs.map (·.nm.toList)).Nodup){o:Nat}{y:DataW Unit×List MemPlace}(hh:Maps.has D (.string s.data.toList)=true)(hR:BH pb (.pointer (some ⟨pb,o,none⟩))=some y)(hat:∀ zd,D.atKey (.string s.data.toList) zd=y.1):∃ i v,vs[i]?=some v∧v.nm=s∧o=po+i*4:=by
 rw[hV.has] at hh;obtain⟨v,hv,e⟩:=ZN.1 hh;obtain⟨i,hi,rfl⟩:=YS hv;have e':vs[i].nm=s:=p3_ (by simpa using e);refine⟨i,vs[i],by simp[hi],e',?_⟩;have h1:=hV.val hn i vs[i] (by simp[hi]) .nil;unfold Cr at h1;rw[e',hat] at h1;rw[hM_] at hR;obtain rfl:=Zi hR;injection h1 with h2;injection h2 with _ h3;omega
theorem hQ_ (B b pb po:Nat)(D:DataW Unit)(va:Option Addr)(vn:Nat)(vs:List Vo)(hpb:0<vn->va=some ⟨pb,po,none⟩)(w:World)(hO:w.ownsMap prog 9 (BH pb) b vn D)(hV:Gz D po vs)(hnd:(vs.map (·.nm.toList)).Nodup)(h2:Bp B w va vn vs)(ht:Gc vs)(hw:WfV vs):
  Calls prog 75 #[.map (some b)] w fun e w'=>(∃ a n cap,e=.returned (.slice a n cap)∧n<=480∧Ad Ct.cs 4 68 w' w.heap.size a n cap (A9 vs))∧Below w.heap.size w w':=by
 have qk:=@run_makeMap prog;have ha:Hid (vs.length=vn):=h2.len;have qf:=hO.lt;have qm:Maps.size D<=vn:=hO.size_le;obtain⟨t6,tv⟩:=ht;rw[ha.out] at t6;have hM:=Bo.made w;have hJ:(w.alloc (.map #[] 0)).ownsMap prog 9 (BH pb) b vn D:=hO.alloc _;have hI:Below w.heap.size w (w.alloc (.map #[] 0)):=(Yg _ _).alloc (Zd _) _;have hS:(w.alloc (.map #[] 0)).heap.size=w.heap.size+1:=by simp
 have hY:∀ left o,0<=tot o (BP (Cc left vs))∧tot o (BP (Cc left vs))<=480:=fun left o=>by
  have h1:=cy_ (fZ_ (Cc left vs)) o;have h2:=iT_ (l:=Cc left vs) (fun v hv=>by have:=tv v (YG.1 hv).1;exact⟨this.1,fun x hx=>(this.2 x hx).1⟩);have h3:(Cc left vs).length<=vs.length:=Yc _ _;have h4:=ha.out;omega
 go_enter func75,ntmps75
 go_wp2_with (first
  |(at_range;refine wpList_range_own _ rfl _ 112 rfl 9 156 Hq underlying112 _ b vn D rfl hJ ?_;intro w0 hb hC hu)
  |go_in)
 rw[hS] at hb hu ⊢;go_frame;have T0:Bo w0 w.heap.size 0 (fun _=>0):=hM.kept hC (by simp);have hf:Below w.heap.size w w0:=hI.grown hC (by omega) (fun j hj=>by cases hj);clear hM hJ hI hS hC hO
 go_loopw [11] (fun _ wr=>∃ (left:Lit->Bool) (cnt m:Nat),m+80*cnt<=80*vn∧(∀ kl,left kl=true->Maps.has D kl=true)∧wr.ranges prog 9 (BH pb) b (w.heap.size+1) vn D left cnt∧Bo wr w.heap.size m (fun o=>tot o (BP (Cc left vs)))∧w.heap.size+2<=wr.heap.size∧Below w.heap.size w wr)
  (fun _ wr=>wr.rangeLeft b (w.heap.size+1))
 case atStart=>
  refine⟨_,_,0,by omega,fun _ h=>h,hb,T0.congr (fun o=>?_),by omega,hf⟩;rw[hL_ (fun v hv=>by unfold Cr;rw[hV.has];exact ZN.2 ⟨v,hv,by simp⟩)];rfl
 case round=>
  clear hb T0 hf hu;obtain⟨left,cnt,m,qj,hp,hG,T,qe,hB⟩:=hrel
  go_wp2_with (first
   |(at_next;refine wpList_next_ranges _ rfl _ rfl 9 Hq (BH pb) Value.string (fun o:Nat=>Value.pointer (some ⟨pb,o,none⟩)) (fun key kl hk=>(by obtain⟨s,hs,_⟩:=f0_ hk;exact⟨s,hs⟩)) (fun v y h=>(by obtain⟨o,ho,_⟩:=eu_ h;exact⟨o,ho⟩)) b (w.heap.size+1) vn D left cnt rfl hG ?_ ?_)
   |go_in)
  ·intro qg h7;rw[iS_ h7] at T
   go_wp2_with fail
   refine (dG_ w.heap.size m _ wr T (by omega)).mono ?_;rintro e w4 ⟨⟨a2,n2,cap2,R,rfl,ql,R4,q1,q2,q3,q4⟩,hU⟩;have hR:R=A9 vs:=g6_ q1 q2 q3 (fun o ho=>by rw[q4 o ho];simp[tot]) YT (fun c hc=>by simp at hc) (hO_ vs) (fun c hc=>by simp at hc) (hN_ hw);subst hR;have hW:=Aa hB hU;go_wp2;go_returns;exact⟨⟨a2,n2,cap2,rfl,by omega,R4.mono hB.size⟩,hW⟩
  ·intro s o kl y yp w1 cnt1 hl hQ hL hN hm h8 hD hu h0
   obtain rfl:kl=.string s.data.toList:=by
    obtain⟨s',e,e2⟩:=f0_ hl;injection e with e;rw[e,e2]
   obtain⟨i,v,hi,rfl,rfl⟩:=hP_ hV hnd (hp _ hQ) hL hN;have h6:i<vn:=by rw[<-ha.out];exact (Zb.1 hi).1
   have hz:=Zc hi;obtain⟨t1,t2⟩:=tv v hz;obtain⟨u1,u2⟩:=hw v hz;obtain⟨F,hr⟩:∃ F:Ow->Int,∀ o,F o=tot o (BP (Cc left vs)):=⟨_,fun _=>rfl⟩;have hh:∀ o,F o+tot o (BK v v.its)=tot o (BP (Cc (fun z=>left z&&!z.sameKey (.string v.nm.data.toList)) vs)):=fun o=>by rw[hr];exact (gn_ (left:=left) (v:=v) hQ hnd hz o).symm
   have hF:∀ o,0<=F o∧F o<=480:=fun o=>by rw[hr];exact hY left o
   have T1:Bo w1 w.heap.size m F:=(T.kept hD (by simp)).congr (fun o=>(hr o).symm);have hf:Below w.heap.size w w1:=hB.grown hD hB.size (fun j hj=>by cases hj;omega);obtain⟨b',o',x,qa,qn,qc,qb,hx,e0,e1,e2,e3,hP,_,_⟩:=b5_ h2 h6;obtain⟨rfl,rfl⟩:b'=pb∧o'=po:=by have:=hpb (by omega);rw[qb] at this;simpa using this
   obtain rfl:v=x:=by rw[hi] at hx;exact Zi hx
   have hK:Hid (v.its.length=qn):=hP.len;rw[hK.out] at t1;have hq:∀ kl,(left kl&&!kl.sameKey (.string v.nm.data.toList))=true->Maps.has D kl=true:=fun kl h=>hp kl (by simp at h;exact h.1);have hE:wr.rangeLeft b (w.heap.size+1)=cnt:=hG.left_eq;have e3':=Ab hf e3;obtain⟨wi,qd⟩:∃ x,x=wr:=⟨_,rfl⟩;subst qd;have hn:w.heap.size+2<=w1.heap.size:=by omega
   clear hl hL hN hD T hB hG hx hi e1 e2 e3 hr hu qe hz
   go_wp2_with fail
   go_loopw [20] (fun ix wq=>∃ (k:Nat),k<=qn∧ix=.int .i64 k∧Bo wq w.heap.size (m+16*k) (fun o=>F o+tot o (BK v (v.its.take k)))∧wq.ranges prog 9 (BH b') b (w.heap.size+1) vn D (fun z=>left z&&!z.sameKey (.string v.nm.data.toList)) cnt1∧w.heap.size+2<=wq.heap.size∧Below w.heap.size w wq) (fun ix _=>qn-(intOf ix).toNat)
   case atStart=>exact⟨0,Zg _,rfl,T1.congr (fun o=>by simp[BK,tot]),hm,hn,hf⟩
   case round=>
    clear T1 hm hf hn e3' h0;obtain⟨k,hk,rfl,T2,he,hn,hg⟩:=hrel;by_cases hlk2:k<qn
    ·obtain⟨ib,io,x,pa,pn,pc,rfl,hx,c0,c1,hA,_,_,_⟩:=bO_ (hP.below hg) hlk2;have f0:=Ab hg e0;obtain⟨s1,_⟩:=t2 x (Zc hx);obtain⟨s2,s3⟩:=u2 x (Zc hx);rw[hA.len] at s1;have qh:(k:Int)<qn:=by omega
     have qi:(0:Int)<=k:=by omega
     have h5:Hid (BK v (v.its.take (k+1))=BK v (v.its.take k)++AU v.id x.nm x.ps):=fq_ hx
     have hZ:∀ o,0<=tot o (BK v (v.its.take k))∧tot o (BK v (v.its.take k))<=1000:=fun o=>by
      have h1:=cy_ (ju_ v (v.its.take k)) o;have h2:=go_ (v:=v) (l:=v.its.take k) (fun y hy=>(t2 y (ZX hy)).1);have h3:(v.its.take k).length<=5:=by rw[Zz];omega
      omega
     clear hx;have X:=Blk.new wr #[.string x.nm,.slice pa pn pc] 122;have gW:wr.grownBy (wr.alloc (.cells #[.string x.nm,.slice pa pn pc] 122)) (some w.heap.size):=Yl wr _ (some w.heap.size);have T3:Bo (wr.alloc (.cells #[.string x.nm,.slice pa pn pc] 122)) w.heap.size (m+16*k) (fun o=>F o+tot o (BK v (v.its.take k))):=T2.kept (Yl wr _ none) (by simp);have f1:=Al (.cells #[.string x.nm,.slice pa pn pc] 122) f0;have hX:BI (wr.alloc (.cells #[.string x.nm,.slice pa pn pc] 122)) pa pn x.ps:=hA.below (by go_grown);clear T2 f0 hA
     go_wp2_with fail
     have x0:=X.cell 0;have x1:=X.cell 1;simp only[lgA,lgB,lgC] at x0 x1;generalize wr.alloc (.cells #[.string x.nm,.slice pa pn pc] 122)=W at *;have y0:W.drew.cell? ⟨wr.heap.size,0,none⟩=some (.string x.nm):=x0;have y1:W.drew.cell? ⟨wr.heap.size,1,none⟩=some (.slice pa pn pc):=x1;have y2:W.drew.cell? ⟨b',o'+i*4,none⟩=some (.int .i64 v.id):=f1;refine aE_ 6 (by kernel_rfl) (by kernel_rfl) ?_;simp only[ZP,Yx,ZR,YC]
     repeat still_step
     refine wpStill_nil ?_
     go_wp2_with fail
     refine (fi_ w.heap.size (m+16*k) _ v.id x.nm pa pn pc x.ps W.drew T3 hX.drew u1 s2 s3 (by omega) (by omega) (fun o=>by have h1:=hF o;have h2:=hZ o;omega)).mono ?_;rintro e w3 ⟨rfl,T4,g4⟩;have g5:wr.grownBy w3 (some w.heap.size):=(gW.andThen (⟨rfl,rfl,rfl,Zd _,fun _ _ _=>rfl⟩:W.grownBy W.drew (some w.heap.size)) (fun j hj=>by cases hj;exact .inr rfl)).andThen g4 (fun j hj=>by cases hj;exact .inr rfl);have hH:=he.kept g5 (by simp only[ne_eq,Zo];omega) (by simp);have hT:Below w.heap.size w w3:=hg.grown g5 hg.size (fun j hj=>by cases hj;exact Zd _);have h9:w.heap.size+2<=w3.heap.size:=Zl hn g5.size;have T5:Bo w3 w.heap.size (m+16*(k+1)) (fun o=>F o+tot o (BK v (v.its.take (k+1)))):=(T4.mono (by omega)).congr (fun o=>by rw[h5.out,bn_];omega);go_wp2;go_roundw
     case rel=>exact⟨k+1,by omega,by go_num,T5,hH,h9,hT⟩
     case measure=>simp[intOf];omega
    ·obtain rfl:k=qn:=by omega
     rw[Zk (Zm hK.out)] at T2;go_wp2;go_roundw
     case rel=>exact⟨_,cnt1,m+16*k,by omega,hq,he,T2.congr hh,hn,hg⟩
     case measure=>rw[he.left_eq,hE];exact h8
end
section
open Go Go.RowKit Go.BigFrame Tryz
variable{size:Int}{e:List Ex}
theorem jv_ (a:Option Addr)(n cap:Nat)(l:List Ct)(a':Option Addr)(n' cap':Nat)(m:List Ct)(w:World)(h:A8 w a n l)(h':A8 w a' n' m)(hn:n<=4194304)(hn':n'<=4194304):
  Calls prog 74 #[.slice a n cap,.slice a' n' cap'] w fun e w'=>e=.returned (.bool (BW l m))∧Below w.heap.size w w':=by
 have hb:Hid (l.length=n):=h.len;have ha:Hid (m.length=n'):=h'.len;by_cases hne:n=n'
 ·subst hne;have hh:((n:Int) != (n:Int))=false:=by simp
  go_enter func74,ntmps74
  go_wp2_with fail
  go_loopw [13] (fun ix wr=>∃ (k:Nat),k<=n∧ix=.int .i64 k∧Hid (BW l m=BW (l.drop k) (m.drop k))∧Below w.heap.size w wr) (fun ix _=>n-(intOf ix).toNat)
  case atStart=>exact⟨0,Zg _,rfl,rfl,Yg _ _⟩
  case round=>
   obtain⟨k,hk,rfl,hI,hB⟩:=hrel;by_cases hlt:k<n
   ·obtain⟨b,o,p,rfl,hp,c0,c1,c2,c3⟩:=aN_ (h.below hB) hlt;obtain⟨b',o',q,rfl,hq,d0,d1,d2,d3⟩:=aN_ (h'.below hB) hlt;have hd:Hid (l.drop k=p::l.drop (k+1)):=al_ hp;have hg:Hid (m.drop k=q::m.drop (k+1)):=al_ hq;clear hp hq;have hj:(k:Int)<n:=by omega
    have hl:(0:Int)<=k:=by omega
    have he:=Mg p q
    cases hf:KD p q
    all_goals rw[hf] at he
    ·go_wp2_with fail
     go_quiet (fail)
     have hc:=below_drewN hB nq;go_wp2;go_returns;go_light;refine⟨ac_ ?_,hc⟩;rw[hI.out,hd.out,hg.out];simp only[BW,hf,Zr]
    ·go_wp2_with fail
     go_quiet (fail)
     have hc:=below_drewN hB nq;go_wp2;go_roundw
     case rel=>exact⟨k+1,by omega,by go_num,by show _=_;rw[hI.out,hd.out,hg.out];simp only[BW,hf,Zp],hc⟩
     case measure=>simp[intOf];omega
   ·obtain rfl:k=n:=by omega
    go_wp2;go_returns;go_light;refine⟨ac_ ?_,hB⟩;rw[hI.out,Ze (Zm hb.out),Ze (Zm ha.out)];rfl
 ·have hh:((n:Int) != (n':Int))=true:=by simp;omega
  go_enter func74,ntmps74;go_wp2;go_returns;go_light;refine⟨ac_ ?_,Yg _ _⟩;rw[gg_ (by rw[hb.out,ha.out];exact hne)]
theorem jw_ (size next:Int)(ea:Option Addr)(en ec:Nat)(va:Option Addr)(vn vc:Nat)(ra:Option Addr)(rn rc:Nat)(la:Option Addr)(ln lc:Nat)(ex:List Ex)(rf lt:List Ct)(w:World)(h1:BZ w ea en ex)(h3:A8 w ra rn rf)(h4:A8 w la ln lt)(z1:en<=4194304)(z3:rn<=200)(z4:ln<=200)(hx:∀ x∈ex,(Lit.int .i64 x.a).wf=true)(hc3:∀ c∈rf,(Lit.int .i64 c.o.a).wf=true)(hc4:∀ c∈lt,(Lit.int .i64 c.o.a).wf=true)(hnd:(ex.map (·.a)).Nodup):
  Calls prog 76 #[.agg #[.int .i64 size,.int .i64 next,.slice ea en ec,.slice va vn vc,.slice ra rn rc,.slice la ln lc]] w fun e w'=>e=.returned (.bool (Du ex (rf++lt)))∧Below w.heap.size w w':=by
 have hH:=@run_makeMap prog;have n1:Hid (ex.length=en):=h1.len;have n3:Hid (rf.length=rn):=h3.len;have n4:Hid (lt.length=ln):=h4.len;have hw:Hid (∀ K:List Lit,K.Nodup->(∀ k∈K,∃ c∈rf++lt,k=.int .i64 c.o.a)->(∀ c∈rf++lt,Lit.int .i64 c.o.a∈K)->(ex.all (fun x=>(rf++lt).any (fun c=>c.o.a==x.a))&&decide (K.length=ex.length))=Du ex (rf++lt)):=fun K h1 h2 h3=>nv_ hnd h1 h2 h3;have hu:Hid (ex.all (fun x=>(rf++lt).any (fun c=>c.o.a==x.a))=false->Du ex (rf++lt)=false):=fun h=>by unfold Du;rw[h];rfl
 generalize Du ex (rf++lt)=R at *;go_enter func76,ntmps76;have C:=(Blk.new w #[.int .i64 size,.int .i64 next,.slice ea en ec,.slice va vn vc,.slice ra rn rc,.slice la ln lc] 28);have ho:Below w.heap.size w (w.alloc (.cells #[.int .i64 size,.int .i64 next,.slice ea en ec,.slice va vn vc,.slice ra rn rc,.slice la ln lc] 28)):=by go_grown
 have ht:(w.alloc (.cells #[.int .i64 size,.int .i64 next,.slice ea en ec,.slice va vn vc,.slice ra rn rc,.slice la ln lc] 28)).heap.size=w.heap.size+1:=by simp
 go_wp2_with fail
 generalize w.alloc (.cells #[.int .i64 size,.int .i64 next,.slice ea en ec,.slice va vn vc,.slice ra rn rc,.slice la ln lc] 28)=W0 at *;have hM:=CD.made W0;have C1:=C.alloc (.map #[] 0);have hq:Below w.heap.size w (W0.alloc (.map #[] 0)):=ho.alloc (by omega) _;clear C ho;rw[ht] at hM;generalize W0.alloc (.map #[] 0)=W1 at *;clear ht
 go_loopw [14] (fun ix wr=>∃ (k:Nat),k<=rn∧ix=.int .i64 k∧CD wr (w.heap.size+1) k (rf.take k)∧Blk wr w.heap.size #[.int .i64 size,.int .i64 next,.slice ea en ec,.slice va vn vc,.slice ra rn rc,.slice la ln lc] 28∧Below w.heap.size w wr) (fun ix _=>rn-(intOf ix).toNat)
 case atStart=>exact⟨0,Zg _,rfl,hM,C1,hq⟩
 case round=>
  clear hM C1 hq;obtain⟨k,hk,rfl,A,C,hB⟩:=hrel;by_cases hlt:k<rn
  ·obtain⟨b,o,p,rfl,hp,c0,c1,c2,c3⟩:=aN_ (h3.below hB) hlt;have hl:=hc3 p (Zc hp);have hr:(k:Int)<rn:=by omega
   have hs:(0:Int)<=k:=by omega
   have hC:(rf.take k).length<=200:=by rw[Zz];omega
   have hh:Hid (rf.take k++[p]=rf.take (k+1)):=(bx_ hp).symm;have hm:=fY_ p.o.a (rf.take k);have gW:wr.grownBy (wr.alloc (.cells #[.int .i64 p.o.a,.int .i64 p.o.v,.string p.o.f,.int .i64 p.n] 68)) (some (w.heap.size+1)):=Yl wr _ _;have A1:CD (wr.alloc (.cells #[.int .i64 p.o.a,.int .i64 p.o.v,.string p.o.f,.int .i64 p.n] 68)) (w.heap.size+1) k (rf.take k):=A.kept (Yl wr _ none) (by simp);have z0:(wr.alloc (.cells #[.int .i64 p.o.a,.int .i64 p.o.v,.string p.o.f,.int .i64 p.n] 68)).cell? ⟨wr.heap.size,0,none⟩=some (.int .i64 p.o.a):=by simp
   have r1:=A1.look hl;obtain⟨w3,r2,A2,g2⟩:=A1.bump (by unfold maxLen;omega) (by omega) hl;have g3:wr.grownBy w3 (some (w.heap.size+1)):=gW.andThen g2 (fun j hj=>by cases hj;exact .inr rfl);have hc:Below w.heap.size w w3:=hB.grown g3 hB.size (fun j hj=>by cases hj;omega);have C3:Blk w3 w.heap.size #[.int .i64 size,.int .i64 next,.slice ea en ec,.slice va vn vc,.slice (some ⟨b,o,none⟩) rn rc,.slice la ln lc] 28:=(g3.block _ C.lt (by simp only[ne_eq,Zo];omega)).trans C;rw[hh.out] at A2;clear hp A A1 hh;generalize EO p.o.a (rf.take k)=Z at *;obtain⟨hy,hA⟩:=hm;go_wp2;go_roundw
   case rel=>exact⟨k+1,by omega,by go_num,A2,C3,hc⟩
   case measure=>simp[intOf];omega
  ·obtain rfl:k=rn:=by omega
   rw[Zk (Zm n3.out)] at A;have d5:=C.cell 5;simp only[lgA,lgB,lgC] at d5;obtain⟨wi,hD⟩:∃ x,x=wr:=⟨_,rfl⟩;subst hD
   go_wp2_with fail
   go_loopw [28] (fun ix wr=>∃ (j:Nat),j<=ln∧ix=.int .i64 j∧CD wr (w.heap.size+1) (k+j) (rf++lt.take j)∧Blk wr w.heap.size #[.int .i64 size,.int .i64 next,.slice ea en ec,.slice va vn vc,.slice ra k rc,.slice la ln lc] 28∧Below w.heap.size w wr) (fun ix _=>ln-(intOf ix).toNat)
   case atStart=>exact⟨0,Zg _,rfl,by simpa using A,C,hB⟩
   case round=>
    clear A C hB d5;obtain⟨j,hj,rfl,A,C,hB⟩:=hrel;by_cases hlt2:j<ln
    ·obtain⟨b,o,p,rfl,hp,c0,c1,c2,c3⟩:=aN_ (h4.below hB) hlt2;have hl:=hc4 p (Zc hp);have hr:(j:Int)<ln:=by omega
     have hs:(0:Int)<=j:=by omega
     have hC:(rf++lt.take j).length<=400:=by rw[ZE,Zz,n3.out];omega
     have hh:Hid (rf++lt.take j++[p]=rf++lt.take (j+1)):=by show _=_;rw[bx_ hp,ZC]
     have hm:=fY_ p.o.a (rf++lt.take j);have gW:wr.grownBy (wr.alloc (.cells #[.int .i64 p.o.a,.int .i64 p.o.v,.string p.o.f,.int .i64 p.n] 68)) (some (w.heap.size+1)):=Yl wr _ _;have A1:CD (wr.alloc (.cells #[.int .i64 p.o.a,.int .i64 p.o.v,.string p.o.f,.int .i64 p.n] 68)) (w.heap.size+1) (k+j) (rf++lt.take j):=A.kept (Yl wr _ none) (by simp);have z0:(wr.alloc (.cells #[.int .i64 p.o.a,.int .i64 p.o.v,.string p.o.f,.int .i64 p.n] 68)).cell? ⟨wr.heap.size,0,none⟩=some (.int .i64 p.o.a):=by simp
     have r1:=A1.look hl;obtain⟨w3,r2,A2,g2⟩:=A1.bump (by unfold maxLen;omega) (by omega) hl;have g3:wr.grownBy w3 (some (w.heap.size+1)):=gW.andThen g2 (fun j hj=>by cases hj;exact .inr rfl);have hc:Below w.heap.size w w3:=hB.grown g3 hB.size (fun j hj=>by cases hj;omega);have C3:Blk w3 w.heap.size #[.int .i64 size,.int .i64 next,.slice ea en ec,.slice va vn vc,.slice ra k rc,.slice (some ⟨b,o,none⟩) ln lc] 28:=(g3.block _ C.lt (by simp only[ne_eq,Zo];omega)).trans C;rw[hh.out] at A2;clear hp A A1 hh;generalize EO p.o.a (rf++lt.take j)=Z at *;obtain⟨hy,hA⟩:=hm;go_wp2;go_roundw
     case rel=>exact⟨j+1,by omega,by go_num,A2,C3,hc⟩
     case measure=>simp[intOf];omega
    ·obtain rfl:j=ln:=by omega
     rw[Zk (Zm n4.out)] at A;have d2:=C.cell 2;simp only[lgA,lgB,lgC] at d2;obtain⟨wj,hE⟩:∃ x,x=wr:=⟨_,rfl⟩;subst hE
     go_wp2_with fail
     go_loopw [42] (fun ix wr=>∃ (i:Nat),i<=en∧ix=.int .i64 i∧Hid (ex.all (fun x=>(rf++lt).any (fun c=>c.o.a==x.a))=(ex.drop i).all (fun x=>(rf++lt).any (fun c=>c.o.a==x.a)))∧CD wr (w.heap.size+1) (k+j) (rf++lt)∧Blk wr w.heap.size #[.int .i64 size,.int .i64 next,.slice ea en ec,.slice va vn vc,.slice ra k rc,.slice la j lc] 28∧Below w.heap.size w wr) (fun ix _=>en-(intOf ix).toNat)
     case atStart=>exact⟨0,Zg _,rfl,rfl,A,C,hB⟩
     case round=>
      clear A C hB d2;obtain⟨i,hi,rfl,hI,A,C,hB⟩:=hrel;by_cases hlt3:i<en
      ·obtain⟨b,o,x,rfl,hn,c0,c1⟩:=be_ (h1.below hB) hlt3;have hF:=hx x (Zc hn);have hd:Hid (ex.drop i=x::ex.drop (i+1)):=al_ hn;have hr:(i:Int)<en:=by omega
       have hs:(0:Int)<=i:=by omega
       clear hn;have A1:CD (wr.alloc (.cells #[.int .i64 x.a,.string x.d] 77)) (w.heap.size+1) (k+j) (rf++lt):=A.kept (Yl wr _ none) (by simp);have z0:(wr.alloc (.cells #[.int .i64 x.a,.string x.d] 77)).cell? ⟨wr.heap.size,0,none⟩=some (.int .i64 x.a):=by simp
       have C3:=C.alloc (.cells #[.int .i64 x.a,.string x.d] 77);have hc:Below w.heap.size w (wr.alloc (.cells #[.int .i64 x.a,.string x.d] 77)):=hB.alloc hB.size _;have r1:=A1.look hF;have hz:=nw_ x.a (rf++lt);have hm:=fY_ x.a (rf++lt);generalize EO x.a (rf++lt)=Z at *
       cases ha:(rf++lt).any (fun c=>c.o.a==x.a)
       ·rw[ha] at hz;replace hz:(Z==0)=true:=hz;have hf:R=false:=hu.out (by rw[hI.out,hd.out,List.all_cons,ha];rfl);clear ha;go_wp2;go_returns;exact⟨by rw[hf];rfl,hc⟩
       ·rw[ha] at hz;replace hz:(Z==0)=false:=hz;have hv:Hid (ex.all (fun x=>(rf++lt).any (fun c=>c.o.a==x.a))=(ex.drop (i+1)).all (fun x=>(rf++lt).any (fun c=>c.o.a==x.a))):=by show _=_;rw[hI.out,hd.out,List.all_cons,ha];rfl
        clear ha;go_wp2;go_roundw
        case rel=>exact⟨i+1,by omega,by go_num,hv,A1,C3,hc⟩
        case measure=>simp[intOf];omega
      ·obtain rfl:i=en:=by omega
       have he:ex.all (fun x=>(rf++lt).any (fun c=>c.o.a==x.a))=true:=by rw[hI.out,Ze (Zm n1.out)];rfl
       obtain⟨K,hK,hG,k1,k2,k3⟩:=A.len 3;have hb:=hw.out K k1 k2 k3;rw[he,Zp,n1.out] at hb;have d2:=C.cell 2;simp only[lgA,lgB,lgC] at d2
       have hg:Hid (((K.length:Int)==(i:Int))=R):=by
        show _=_;rw[<-hb,YH];simp only[beq_iff_eq,ZU];omega
       clear hb he hI;go_wp2;go_returns;exact⟨by rw[<-hg.out];rfl,hB⟩
theorem ny_ {P:Program}{k:TypeId}{R:Value->Option (DataW Unit×List MemPlace)}{w w':World}{b n:Nat}{D:DataW Unit}(h:w.ownsMap P k R b n D)(hb:Below w.heap.size w w'):w'.ownsMap P k R b n D:=by
 have ha:=h.lt;obtain⟨es,clock,h1,r⟩:=h;exact⟨es,clock,(hb.block b ha).trans h1,r⟩
theorem iV_:∀ {l:List Ex} {next:Int},0<=next->size<=400->xgo size next l=true->∀ x∈l,0<=x.a∧x.a<=400
 |[],_,_,_,_,_,hx=>by simp at hx
 |e::r,next,h0,hs,h,x,hx=>by
  simp only[xgo,Zf,ZU] at h;obtain⟨⟨⟨h1,h2⟩,h3⟩,h4⟩:=h
  have hd:1<=e.d.size:=by
   simp only[Aw,Zf,ZU] at h1;exact h1.1.1
  rcases Zn.1 hx with rfl | hx
  ·omega
  ·exact iV_ (by omega) hs h4 x hx
theorem kI_ {l:List Ex}(h:Am size l=true):∀ x∈l,(Lit.int .i64 x.a).wf=true:=fun x hx=>by
 simp only[Am,Zf,ZU] at h
 have:=iV_ (by omega) h.1.1.2 h.2 x hx
 exact Yz (by omega)
theorem oz_ {ps:List Pt}(h:(AP ps e).isSome=true):∀ p∈ps,(Lit.int .i64 p.a).wf=true:=fun p hp=>by
 have hk:Ae ps=true:=by
  unfold AP at h;split at h
  ·rename_i hh;exact hh.1
  ·cases h
 obtain⟨_,q2,_⟩:=ae_ hk
 have:=q2 p hp
 unfold Ao at this;split at this
 ·rename_i h0
  have:p.a=0:=by simpa using h0
  exact Yz (by omega)
 ·simp only[Zf,ZU] at this;exact Yz (by omega)
theorem lU_ {s:ByteArray}(h:nameB s=true):s.size<=maxLen:=by
 simp only[nameB,Zf,ZU] at h;unfold maxLen;omega
theorem oA_ {next:Int}{l:List Vo}(hn:next<=1000000000)(h:vgo next e 0 l=true):WfV l:=by
 intro v hv;obtain⟨h1,h2,h3,h4⟩:=b0_ h v hv;refine⟨Yz (by omega),fun x hx=>?_⟩;simp only[itemsB,Zf] at h1;exact⟨lU_ (hR_ h1.2 x hx),oz_ (db_ h1.2 x hx)⟩
theorem ch_ (B:Nat)(v:Value)(p:Po)(w:World)(h:AW B w v p)(hd:AJ p):
  Calls prog 38 #[v] w fun e w'=>e=.returned (.bool (Ap p))∧Below w.heap.size w w':=by
 obtain⟨ea,en,ec,va,vn,vc,ra,rn,rc,la,ln,lc,rfl,⟨h1,k1⟩,⟨h2,k2⟩,⟨h3,k3⟩,h4,k4⟩:=h;obtain⟨z1,z2,z3,z4,z5,z6,z7,z8⟩:=hd;rw[h1.len] at z1;rw[h2.len] at z3;rw[h3.len] at z5;rw[h4.len] at z7;have n2:Hid (p.vs.length=vn):=h2.len;have n3:Hid (p.rf.length=rn):=h3.len;have n4:Hid (p.lt.length=ln):=h4.len;obtain⟨size,next,ex,vs,rf,lt⟩:=p;simp only at h1 h2 h3 h4 z2 z4 z6 z8 n2 n3 n4
 obtain⟨pb,po,hw⟩:∃ pb po,0<vn->va=some ⟨pb,po,none⟩:=by
  by_cases h0:0<vn
  ·obtain⟨b,o,_,_,_,_,hv,_⟩:=b5_ h2 h0;exact⟨b,o,fun _=>hv⟩
  ·exact⟨0,0,fun h=>absurd h h0⟩
 have hR:Hid (Ap ⟨size,next,ex,vs,rf,lt⟩=(Am size ex&&decide (1<=next)&&decide (next<=1000000000)&&EM next vs ex&&Ep vs&&(match AB rf lt with | none=>false | some s=>BW s (A9 vs))&&Du ex (rf++lt))):=rfl;generalize Ap ⟨size,next,ex,vs,rf,lt⟩=R at *;have C:=(Blk.new w #[.int .i64 size,.int .i64 next,.slice ea en ec,.slice va vn vc,.slice ra rn rc,.slice la ln lc] 28);have hn:Below w.heap.size w (w.alloc (.cells #[.int .i64 size,.int .i64 next,.slice ea en ec,.slice va vn vc,.slice ra rn rc,.slice la ln lc] 28)):=by go_grown
 cases hm:Am size ex
 ·rw[hm] at hR;simp only[Zr] at hR;go_enter func38,ntmps38
  go_wp2_with fail
  generalize w.alloc (.cells #[.int .i64 size,.int .i64 next,.slice ea en ec,.slice va vn vc,.slice ra rn rc,.slice la ln lc] 28)=W0 at *;refine (a8_ size ea en ec ex _ (h1.below hn) z2 z1).mono ?_;rintro e w1 ⟨rfl,hb⟩;rw[hm];go_wp2;go_returns;exact⟨by rw[hR.out];rfl,Aa hn hb⟩
 ·rw[hm,Zp] at hR;go_enter func38,ntmps38
  go_wp2_with fail
  generalize w.alloc (.cells #[.int .i64 size,.int .i64 next,.slice ea en ec,.slice va vn vc,.slice ra rn rc,.slice la ln lc] 28)=W0 at *;refine (a8_ size ea en ec ex _ (h1.below hn) z2 z1).mono ?_;rintro e w1 ⟨rfl,hb⟩;rw[hm];have C1:=C.below hb;replace hb:=Aa hn hb;clear C hn;have d0:=C1.cell 0;have d1:=C1.cell 1;have d2:=C1.cell 2;have d3:=C1.cell 3;have d4:=C1.cell 4;have d5:=C1.cell 5;simp only[lgA,lgB,lgC] at d0 d1 d2 d3 d4 d5;by_cases hn1:1<=next
  ·rw[decide_eq_true hn1,Zp] at hR;by_cases hn2:next<=1000000000
   ·rw[decide_eq_true hn2,Zp] at hR;have ho:Hid (EM next vs ex=true->vs.length<=6∧vgo next ex 0 vs=true):=fun h=>by simpa[EM] using h
    go_wp2_with fail
    refine (kC_ B size next ea en ec va vn vc ra rn rc la ln lc ex vs _ (h1.below hb) (h2.below hb) z1 z2 z3 z4).mono ?_;rintro e w2 ⟨rfl,hj⟩;have C2:=C1.below hj;replace hj:=Aa hb hj;clear d0 d1 d2 d3 d4 d5 C1 hb;have d0:=C2.cell 0;have d1:=C2.cell 1;have d2:=C2.cell 2;have d3:=C2.cell 3;have d4:=C2.cell 4;have d5:=C2.cell 5;simp only[lgA,lgB,lgC] at d0 d1 d2 d3 d4 d5
    cases hp:EM next vs ex
    ·rw[hp] at hR;simp only[Zr] at hR;clear hp;go_wp2;go_returns;exact⟨by rw[hR.out];rfl,hj⟩
    ·obtain⟨h6,hz⟩:=ho.out hp;rw[hp,Zp] at hR;have hE:=g2_ h6 hz;have hF:=oA_ hn2 hz;clear hp ho
     go_wp2_with fail
     refine (bC_ B size next ea en ec va vn vc ra rn rc la ln lc vs pb po hw _ (h2.below hj) z3 z4).mono ?_;rintro e w3 ⟨⟨mb,D,rfl,hG,hO,hV⟩,he⟩;have C3:=C2.below he;replace he:=Aa hj he;clear d0 d1 d2 d3 d4 d5 C2 hj;have d3:=C3.cell 3;have d4:=C3.cell 4;have d5:=C3.cell 5;simp only[lgA,lgB,lgC] at d3 d4 d5;have ht:=hO.len underlying112 3;have hq:=hV.full;have hy:=hV.size;rw[n2.out] at hq hy;have hu:Hid (Ep vs=decide (Maps.size D=vn)):=by show _=_;unfold Ep;rw[decide_eq_decide];exact hq.symm
     rw[hu.out] at hR;by_cases hse:Maps.size D=vn
     ·rw[decide_eq_true hse,Zp] at hR;have hnd:=hq.1 hse;rw[hse] at ht;have hB:((vn:Int) != (vn:Int))=false:=by simp
      clear hq hy hu hse
      go_wp2_with fail
      refine (fX_ ra rn rc rf la ln lc lt _ (h3.below he) (h4.below he) z6 z8 z5 z7).mono ?_;rintro e w4 ⟨ha,hf⟩;have C4:=C3.below hf;replace hO:=ny_ hO hf;replace hf:=Aa he hf;clear d3 d4 d5 C3 he ht
      cases hk:AB rf lt with
      |none=>
       rw[hk] at ha hR;replace ha:e=.returned (.tuple #[.slice none 0 0,.bool false]):=ha;subst ha;clear hk;go_wp2;go_returns;exact⟨by rw[hR.out];rfl,hf⟩
      |some sm=>
       rw[hk] at ha hR;replace hR:Hid (R=(BW sm (A9 vs)&&Du ex (rf++lt))):=hR;obtain⟨a4,n4',cap4,rfl,hH,R4⟩:=ha
       have hr:AI rf=true∧AR lt=true:=by
        unfold AB at hk;split at hk
        ·rename_i hh;exact hh
        ·cases hk
       clear hk
       go_wp2_with fail
       refine (hQ_ B mb pb po D va vn vs hw _ hO hV hnd (h2.below hf) hE hF).mono ?_;rintro e w5 ⟨⟨a5,n5,cap5,rfl,hI,R5⟩,hl⟩;replace R4:=R4.below hl;have C5:=C4.below hl;replace hl:=Aa hf hl;clear C4 hf hO
       go_wp2_with fail
       refine (jv_ a4 n4' cap4 sm a5 n5 cap5 (A9 vs) _ R4.sl R5.sl (by omega) (by omega)).mono ?_;rintro e w6 ⟨rfl,hg⟩;have C6:=C5.below hg;replace hg:=Aa hl hg;clear R4 R5 C5 hl;have d0:=C6.cell 0;have d1:=C6.cell 1;have d2:=C6.cell 2;have d3:=C6.cell 3;have d4:=C6.cell 4;have d5:=C6.cell 5;simp only[lgA,lgB,lgC] at d0 d1 d2 d3 d4 d5
       cases hM:BW sm (A9 vs)
       ·rw[hM] at hR;simp only[Zr] at hR;clear hM;go_wp2;go_returns;exact⟨by rw[hR.out];rfl,hg⟩
       ·rw[hM,Zp] at hR;have hD:=(jt_ hr.1).1;have hC:=(mP_ hr.2).1;have hx:=(a0_ hr.1).1;have hs:=(br_ hr.2).1;rw[n3.out] at hx;rw[n4.out] at hs;clear hM
        go_wp2_with fail
        refine (jw_ size next ea en ec va vn vc ra rn rc la ln lc ex rf lt _ (h1.below hg) (h3.below hg) (h4.below hg) z1 hx hs (kI_ hm) (fun c hc=>(hD c hc).a) (fun c hc=>(hC c hc).a) (kH_ hm)).mono ?_;rintro e w7 ⟨rfl,hA⟩;go_wp2;go_returns;exact⟨by rw[hR.out];rfl,Aa hg hA⟩
     ·rw[YV hse] at hR;simp only[Zr] at hR;have hB:((Maps.size D:Int) != (vn:Int))=true:=by simp;omega
      go_wp2;go_returns;exact⟨by rw[hR.out];rfl,he⟩
   ·rw[YV hn2] at hR;simp only[Zr] at hR;go_wp2;go_returns;exact⟨by rw[hR.out];rfl,hb⟩
  ·rw[YV hn1] at hR;simp only[Zr] at hR;go_wp2;go_returns;exact⟨by rw[hR.out];rfl,hb⟩
end
end Go.Proofs.YtkiceokhlceciaaGreatDoor
