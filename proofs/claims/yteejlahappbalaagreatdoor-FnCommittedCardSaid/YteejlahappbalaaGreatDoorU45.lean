/- Texts of pools, read and written; what is drawn. -/
import Derived.Test.YteejlahappbalaaGreatDoorU41
set_option maxHeartbeats 20000000
set_option maxRecDepth 100000
namespace Go.Proofs.YteejlahappbalaaGreatDoor
section
open Go.RowKit Tryz
def Vg (p:Fl):Prop:=p.nm.size<=9223372036854775807∧p.d.size<=9223372036854775807
def Pj (l:List Fl):Prop:=∀ p∈l,Vg p
end
section
open Go Go.RowKit Go.BigFrame Tryz
theorem Be (r:Hr):(hrs r).length=2:=rfl
theorem KL (s:ByteArray):(sps s).length=1:=rfl
theorem FY (l:List Hr):∀ u∈l.flatMap hrs,u.oneCell'=true:=by
 intro u hu;obtain⟨p,_,hp⟩:=ZL.1 hu;simp[hrs] at hp;exact pZ
theorem Tp (l:List ByteArray):∀ u∈l.flatMap sps,u.oneCell'=true:=by
 intro u hu;obtain⟨p,_,hp⟩:=ZL.1 hu;simp[sps] at hp;rcases hp with rfl;rfl
theorem Lx {B:Nat}{w:World}{a:Option Addr}{n cap:Nat}{rows:List Hr}{l:List Hy}(R:Ac hrs 2 192 w B a n cap rows)(T:HsT B w rows l){k:Nat}(hk:k<n) :
  ∃ b r y,a=some ⟨b,0,none⟩∧rows[k]?=some r∧l[k]?=some y∧HT B w r y∧w.cell? ⟨b,k*2,none⟩=some (.string y.nm)∧w.cell? ⟨b,k*2+1,none⟩=some (.slice r.pa r.pn r.pc):=by
 have hl:k<rows.length:=by rw[R.sl.len];exact hk
 have hr:rows[k]?=some rows[k]:=oA;have hy:l[k]?=some (l[k]'(by rw[<-T.len];exact hl)):=by simp[<-T.len,hl]
 have hT:=T.at' k _ _ hr hy;obtain⟨b,ha⟩:∃ b,a=some ⟨b,0,none⟩:=by
  rcases R.own with⟨_,h0,_⟩ | ⟨b,h0,_⟩
  ·omega
  ·exact⟨b,h0⟩
 subst ha;obtain⟨b',o',e,hc⟩:=R.sl.cell k _ hr
 cases e;have h0:=hc 0 _ rfl;have h1:=hc 1 _ rfl;rw[hT.nm] at h0;simp only[Zq,Nat.add_zero] at h0 h1;exact⟨_,_,_,rfl,hr,hy,hT,h0,h1⟩
theorem U3 {w:World}{a:Option Addr}{n:Nat}{l:List ByteArray}(h:AH sps 1 w a n l){k:Nat}(hk:k<n):∃ b o s,a=some ⟨b,o,none⟩∧l[k]?=some s∧w.cell? ⟨b,o+k,none⟩=some (.string s):=by
 have hl:k<l.length:=rB;have hx:l[k]?=some l[k]:=oA;obtain⟨b,o,ha,hc⟩:=h.cell k _ hx;have:=hc 0 _ rfl;simp only[Nat.mul_one,Nat.add_zero] at this;exact⟨b,o,_,ha,hx,this⟩
def Cw:List ByteArray->Nat
 |[]=>0
 |s::r=>s.size+Cw r
def Da:List Hy->Nat
 |[]=>0
 |y::r=>Cw y.ps+Da r
def Do (l:List Hy):Bool:=decide (l.length<=60)&&decide (Da l<=200000)
theorem OV {l:List ByteArray}{k:Nat}{s:ByteArray}(h:l[k]?=some s):Cw (l.take (k+1))=Cw (l.take k)+s.size:=by
 rw[bx_ h];have:∀ m:List ByteArray,Cw (m++[s])=Cw m+s.size:=fun m=>by
  induction m with
  |nil=>simp[Cw]
  |cons x r ih=>simp only[YF,Cw,ih];omega
 exact this _
theorem Ts (l:List ByteArray)(k:Nat):Cw (l.take k)<=Cw l:=by
 induction l generalizing k with
 |nil=>simp[Cw]
 |cons x r ih=>cases k with
  |zero=>simp[Cw]
  |succ k=>have:=ih k;simp only[ZP,Cw];omega
theorem J1 {l:List Hy}{k:Nat}{y:Hy}(h:l[k]?=some y):Da (l.take (k+1))=Da (l.take k)+Cw y.ps:=by
 rw[bx_ h];have:∀ m:List Hy,Da (m++[y])=Da m+Cw y.ps:=fun m=>by
  induction m with
  |nil=>simp[Da]
  |cons x r ih=>simp only[YF,Da,ih];omega
 exact this _
theorem NW (l:List Hy)(k:Nat):Da (l.take k)<=Da l:=by
 induction l generalizing k with
 |nil=>simp[Da]
 |cons x r ih=>cases k with
  |zero=>simp[Da]
  |succ k=>have:=ih k;simp only[ZP,Da];omega
theorem JL (B sb:Nat)(a:Option Addr)(n cap:Nat)(rows:List Hr)(l:List Hy)(w:World)(hS:Blk w sb #[.slice a n cap] 135)(R:Ac hrs 2 192 w B a n cap rows)(T:HsT B w rows l)(hn:n<=4194304)(hp:∀ y∈l,y.ps.length<=4194304)(hs:∀ y∈l,∀ s∈y.ps,s.size<=9223372036854775807) :
  Calls prog 78 #[.pointer (some ⟨sb,0,none⟩)] w fun e w'=>e=.returned (.bool (Do l))∧Below w.heap.size w w':=by
 have ha:Hid (l.length=n):=r7;have x0:w.cell? ⟨sb,0,none⟩=some (.slice a n cap):=hS.cell 0;by_cases h60:n<=60
 ·have hb:¬ (60:Int)<n:=sH;have ho:Hid (Do l=decide (Da l<=200000)):=by show _=_;simp[Do,ha.out,h60]
  go_enter func78,ntmps78;go_wp2_with fail;go_loopw [3,19] (fun lf ix wr=>∃ (k q:Nat),k<=n∧ix=.int .i64 k∧Da (l.take k)+q=200000∧lf=.int .i64 (q:Int)∧Below w.heap.size w wr) (fun _ ix _=>n-(intOf ix).toNat)
  case atStart=>exact⟨0,200000,Zg _,rfl,by simp[Da],rfl,Yg _ _⟩
  case round=>
   obtain⟨k,q,hk,rfl,hq,rfl,hB⟩:=hrel;by_cases hlt:k<n
   ·obtain⟨b,r,y,rfl,hr,hy,hT,c0,c1⟩:=Lx (R.below hB) (T.below hB) hlt;have hu:Hid (Da (l.take (k+1))=Da (l.take k)+Cw y.ps):=J1 hy;have hl:Hid (Da (l.take (k+1))<=Da l):=NW l _;have hv:=hp y (Zc hy);have hD:=hs y (Zc hy);have he:Hid (y.ps.length=r.pn):=hT.ps.sl.len;rw[he.out] at hv;clear hr hy;have hG:(k:Int)<n:=sH;have hH:(0:Int)<=k:=sH;obtain⟨wi,hC⟩:∃ x,x=wr:=⟨_,rfl⟩;subst hC;generalize Da (l.take k)=SH at *;obtain⟨rn,pa,pn,pc⟩:=r;simp only at c1 he hv;have hA:Below wi.heap.size wi (wi.alloc (.cells #[.string y.nm,.slice pa pn pc] 192)):=(Yg _ _).alloc (Zd _) _;go_wp2_with fail;have hP:=hT.ps.sl.below hA;have hm:=Aa hB hA;simp only at hP;generalize wi.alloc (.cells #[.string y.nm,.slice pa pn pc] 192)=W1 at *;go_loopw [3,7,26] (fun lf _pv ix wr=>∃ (j q2:Nat),j<=pn∧ix=.int .i64 j∧Cw (y.ps.take j)+q2=q∧lf=.int .i64 (q2:Int)∧W1=wr) (fun _ _ ix _=>pn-(intOf ix).toNat)
    case atStart=>exact⟨0,q,Zg _,rfl,by simp[Cw],rfl,rfl⟩
    case round=>
     obtain⟨j,q2,hj,rfl,hx,rfl,rfl⟩:=hrel;by_cases hlj:j<pn
     ·obtain⟨b2,o2,s,rfl,hg,d0⟩:=U3 hP hlj;have hI:=hD s (Zc hg);have ht:Hid (Cw (y.ps.take (j+1))=Cw (y.ps.take j)+s.size):=OV hg;have hh:Hid (Cw (y.ps.take (j+1))<=Cw y.ps):=Ts _ _;clear hg;have hE:(j:Int)<pn:=sH;have hF:(0:Int)<=j:=sH;generalize Cw (y.ps.take j)=SP at *;by_cases hgt:q2<s.size
      ·have hc:(q2:Int)<(s.size:Int):=sH;have hf:Hid (Do l=false):=by
        show _=_;rw[ho.out];have h1:=hu.out;have h2:=hl.out;have h3:=ht.out;have h4:=hh.out;simp only[YU];omega
       go_wp2;go_returns;exact⟨ac_ hf.out.symm,hm⟩
      ·have hc:¬ (q2:Int)<(s.size:Int):=sH;have hw:IntKind.i64.wrap ((q2:Int)-(s.size:Int))=((q2-s.size:Nat):Int):=rj;have hz:(q2:Int)-(s.size:Int)=((q2-s.size:Nat):Int):=sH;go_wp2;go_roundw
       case rel=>exact⟨j+1,q2-s.size,sH,sQ,by rw[ht.out];omega,by first | rfl | (rw[hz]) | go_num,by first | trivial | rfl⟩
       case measure=>simp[intOf];omega
     ·obtain rfl:j=pn:=sH;rw[Zk (Zm he.out)] at hx;go_wp2;go_roundw
      case rel=>exact⟨k+1,q2,sH,sQ,by rw[hu.out];omega,rfl,hm⟩
      case measure=>simp[intOf];omega
   ·obtain rfl:k=n:=sH;rw[Zk (Zm ha.out)] at hq;have hf:Hid (Do l=true):=by
     show _=_;rw[ho.out];simp only[ZU];omega
    go_wp2;go_returns;exact⟨ac_ hf.out.symm,hB⟩
 ·have hb:(60:Int)<n:=sH;have hf:Hid (Do l=false):=by show _=_;simp[Do,ha.out,h60]
  go_enter func78,ntmps78;go_wp2;go_returns;exact⟨ac_ hf.out.symm,Yg _ _⟩
theorem Qj:(prog.info? 192).map (fun i=>(i.zero,i.size,i.bytes))=some (some (.agg #[.string .empty,.slice none 0 0]),2,40):=by kernel_rfl
theorem Q5 {w:World}{b B:Nat}{s:ByteArray}(hb:Blk w b #[.string s] 9)(hB:B<=b):Ac sps 1 9 w B (some ⟨b,0,none⟩) 1 1 [s]:=by
 refine ⟨⟨rfl,fun i x hx=>⟨b,0,rfl,fun j v hv=>?_⟩⟩,.inr ⟨b,rfl,hB,Zd _,sO,_,hb,rfl,rfl⟩⟩;have hi:i=0:=rP;subst hi;simp at hx;subst hx;have hj:j=0:=by have:=(Zb.1 hv).1;simp[sps] at this;exact this
 subst hj;simp[sps] at hv;subst hv;exact hb.cell 0
theorem Ra (w:World)(r:Hr)(t:TypeId)(b:Nat)(hb:b=w.heap.size):AH hrs 2 (w.alloc (.cells #[.string r.nm,.slice r.pa r.pn r.pc] t)) (some ⟨b,0,none⟩) 1 [r]:=by
 subst hb;refine ⟨rfl,fun i y hy=>⟨_,0,rfl,fun j v hv=>?_⟩⟩;have hi:i=0:=rl;subst hi;simp at hy;subst hy;rw[Yv];simp only[Nat.zero_mul,Zq]
 match j,hv with
 |0,hv=>exact hv
 |1,hv=>exact hv
 |j+2,hv=>simp[hrs] at hv
theorem Jc {o:Oper}{a:Act}{w:World}{K:Act->World->Prop}{Q:Exit->Act->World->Prop}(s x:Operand)(ho:o.op=.call {callee:=.builtin .append,args:=#[s,x],argTypes:=#[133,133]})
  (B:Nat) (da:Option Addr) (dn dcap:Nat) (ld:List Hr) (hs:a.eval s=.slice da dn dcap) (hd:Ac hrs 2 192 w B da dn dcap ld)
  (sa:Option Addr) (sn scap:Nat) (ls:List Hr) (hx:a.eval x=.slice sa sn scap) (hsrc:AH hrs 2 w sa sn ls) (hspot:∀ ad,sa=some ad->ad.spot=none) (hnone:sa=none->scap=0)
  (tot:Nat) (htot:dn+sn=tot) (h63:tot<=9000000) (hbase:B<=w.heap.size)
  (h:∀ a' cap' w',Ac hrs 2 192 w' B a' tot cap' (ld++ls)->w.grownBy w' (Value.ownBlock (.slice da dn dcap))->K (a.put o.dst (.slice a' tot cap')) w'):o.wp prog a w K Q:=by
 obtain⟨i0,hi,ha,hb,hc⟩:=info_parts Qj;exact ay_ s x _ ho B _ i0 _ 40 underlying133 hi ha hb hc rfl sJ Be FY da dn dcap ld hs hd sa sn scap ls hx hsrc hspot hnone tot htot sO sH hbase h
def DG (f:Fl):Hy:=⟨f.nm,[f.d]⟩
theorem Blk.one {w:World}{b:Nat}{c0:Value}{t:TypeId}(h:Blk w b #[c0] t):w.cell? ⟨b,0,none⟩=some c0:=h.cell 0
theorem GW (a:Option Addr)(n cap:Nat)(l:List Fl)(w:World)(h:Dz w a n l)(hn:n<=4000000) :
  Calls prog 76 #[.slice a n cap] w fun e w'=>(∃ a' c' rows,e=.returned (.agg #[.slice a' n c'])∧Ac hrs 2 192 w' w.heap.size a' n c' rows∧HsT w.heap.size w' rows (l.map DG))∧Below w.heap.size w w':=by
 have hf:Hid (l.length=n):=h.len;go_enter func76,ntmps76;go_wp2_with fail;go_loopw [5,8] (fun _pv ix wr=>∃ (k:Nat) (a2:Option Addr) (c2:Nat) (rows:List Hr),k<=n∧ix=.int .i64 k∧Blk wr w.heap.size #[.slice none 0 0] 135∧Blk wr (w.heap.size+1) #[.slice a2 k c2] 135∧Ac hrs 2 192 wr (w.heap.size+2) a2 k c2 rows∧HsT (w.heap.size+2) wr rows ((l.take k).map DG)∧w.heap.size+2<=wr.heap.size∧Below w.heap.size w wr) (fun _ ix _=>n-(intOf ix).toNat)
 case atStart=>exact⟨0,none,0,[],Zg _,rfl,(Blk.new w _ _).alloc _,Blk.new' _ _ _ _ sK,aB_,by simpa using HsT.nil _ _,sK,sM⟩
 case round=>
  obtain⟨k,a2,c2,rows,hk,rfl,D,P,R,T,hu,hB⟩:=hrel;have x0:=P.one;have f0:=P.frozen 0;have za:=fun ob=>Aj (w:=wr) ob x0;have hl:¬ w.heap.size+1=wr.heap.size:=sH;by_cases hlt:k<n
  ·obtain⟨b,o,p,rfl,hp,c0,c1⟩:=Ec (h.below hB) hlt;have hm:Hid ((l.take (k+1)).map DG=(l.take k).map DG++[DG p]):=by
    show _=_;rw[bx_ hp,List.map_append];rfl
   clear hp;have ho:(k:Int)<n:=sH;have hq:(0:Int)<=k:=sH;generalize (l.take k).map DG=G at *;have hb:Below wr.heap.size wr (((wr.alloc (.cells #[.string p.nm,.string p.d] 39)).alloc (.cells #[.string p.d] 9)).alloc (.cells #[.string p.nm,.slice (some ⟨wr.heap.size+1,0,none⟩) 1 1] 192)):=sM;have S3:Blk (((wr.alloc (.cells #[.string p.nm,.string p.d] 39)).alloc (.cells #[.string p.d] 9)).alloc (.cells #[.string p.nm,.slice (some ⟨wr.heap.size+1,0,none⟩) 1 1] 192)) (wr.heap.size+1) #[.string p.d] 9:=(Blk.new' _ _ _ _ sK).alloc _;go_wp2_with (at_builtin;refine ag_ rfl (fun K hK=>Jc _ _ rfl (w.heap.size+2) a2 k c2 rows rfl (R.below hb) _ 1 1 [(⟨p.nm,some ⟨wr.heap.size+1,0,none⟩,1,1⟩:Hr)] rfl (Ra _ (⟨p.nm,some ⟨wr.heap.size+1,0,none⟩,1,1⟩:Hr) _ _ sK) (fun ad h=>sV) (fun h=>sY) (k+1) rfl sH sN (fun a3 c3 w3 R3 hc=>hK _ _ ?_));have he:=(R.below hb).rowTy (m:=k) (k:=c2);have P3:=(P.below hb).ty hc he sJ;have y0:=P3.one;have g0:=P3.frozen 0);have D3:=(D.below hb).ty hc he sJ;have T3:=(T.below hb).ty hc he sJ;have N3:HT (w.heap.size+2) w3 (⟨p.nm,some ⟨wr.heap.size+1,0,none⟩,1,1⟩:Hr) (DG p):=⟨rfl,Q5 (S3.ty hc he sJ) sH⟩;have T4:=T3.snoc (w0:=wr) N3 (fun i q x hi hx=>(T.block hi x hx).2) (fun x hx=>by cases hx;simp only;omega);have hg:Below w.heap.size w w3:=Yi (Aa hB hb) hc (Aa hB hb).size (fun j e=>by have:=aG_ (fun ad hj=>(R.block ad hj).1) j e;omega);have hr:=hc.size;have ht:=hb.size;go_wp2;have ha:w3.grownBy (w3.setCell ⟨w.heap.size+1,0,none⟩ (.slice a3 (k+1) c3)) (some (w.heap.size+1)):=af_ (Yh _ _) _ _;have hs:=ha.size;go_roundw
   case rel=>exact⟨k+1,a3,c3,_,sH,sQ,(ha.block _ D3.lt sK).trans D3,by simpa using P3.set 0 (.slice a3 (k+1) c3),R3.ty ha (aa_ P3) sJ,by rw[hm.out];exact T4.ty ha (aa_ P3) sJ,sH,hg.grown ha hg.size (fun j e=>by cases e;omega)⟩
   case measure=>simp[intOf];omega
  ·obtain rfl:k=n:=sH;rw[Zk (Zm hf.out)] at T;have z0:=D.one;have q0:=D.frozen 0;go_wp2;have ha:wr.grownBy (wr.setCell ⟨w.heap.size,0,none⟩ (.slice a2 k c2)) (some w.heap.size):=af_ (Yh _ _) _ _;have W0:Blk (wr.setCell ⟨w.heap.size,0,none⟩ (.slice a2 k c2)) w.heap.size #[.slice a2 k c2] 135:=by simpa using D.set 0 (.slice a2 k c2)
   have R4:=(R.ty ha (aa_ D) sJ).mono (show w.heap.size<=w.heap.size+2 by omega);have T4:=(T.ty ha (aa_ D) sJ).mono (show w.heap.size<=w.heap.size+2 by omega);have hh:=hB.grown ha hB.size (fun j e=>by cases e;omega);generalize wr.setCell ⟨w.heap.size,0,none⟩ (.slice a2 k c2)=W8 at *;refine YW (results_cell_row rfl _ W8 w.heap.size _ _ _ _ rfl W0 underlying135 rfl sI) rfl ?_;exact⟨⟨a2,c2,rows,rfl,R4,T4⟩,hh⟩
theorem Dy (d:ByteArray)(w:World)(hd:d.size<=9223372036854775807) :
  Calls prog 129 #[.string d] w fun e w'=>e=.returned (.bool (nmB d))∧w'=w:=by
 by_cases h1:1<=d.size
 ·have hf:Hid (decide ((d.size:Int)<=100)=nmB d):=by
   exact sC
  go_enter func129,ntmps129;go_wp2;go_returns;exact⟨ac_ hf.out,rfl⟩
 ·have hf:Hid (nmB d=false):=by show _=_;simp[nmB];omega
  go_enter func129,ntmps129;go_wp2;go_returns;exact⟨ac_ hf.out.symm,rfl⟩
theorem Ri (l:List Fl):Da (l.map DG)=sumB l:=by
 induction l with
 |nil=>rfl
 |cons x r ih=>simp only[YD,Da,sumB,ih,DG,Cw];omega
theorem Qa (l:List Fl):Do (l.map DG)=(decide (l.length<=60)&&decide (sumB l<=200000)):=by
 unfold Do;rw[Ri,List.length_map]
theorem Lp (l:List Fl):Aq l=(fgo none l&&Do (l.map DG)):=by
 rw[Qa];unfold Aq
 cases fgo none l<;>simp
theorem mY{p:Prop}(h:p:=by
 refine tk 18 ?_;refine wpAnyH_done sI ?_ _;clear qZ hHeld;go_wp2;go_returns
 exact⟨by rw[qJ.out,hf.out];rfl,Aa qe ((Yg _ _).drew)⟩):p:=h
theorem CF (a:Option Addr)(n cap:Nat)(l:List Fl)(w:World)(h:Dz w a n l)(hb:Pj l)(hn:n<=4000000) :
  Calls prog 75 #[.slice a n cap] w fun e w'=>e=.returned (.bool (Aq l))∧Below w.heap.size w w':=by
 have qg:Hid (l.length=n):=h.len;have qJ:Hid (Aq l=(fgo none l&&Do (l.map DG))):=Lp l;go_enter func75,ntmps75;go_wp2_with fail;go_loopw [3,4,8] (fun _pi _pf ix wr=>∃ k:Nat,k<=n∧ix=.int .i64 k∧Hid (fgo none l=fgo (Ds l k) (l.drop k))∧Below w.heap.size w wr) (fun _ _ ix _=>n-(intOf ix).toNat)
 case atStart=>exact⟨0,Zg _,rfl,by show _=_;simp[Ds],Yg _ _⟩
 case round=>
  obtain⟨k,hk,rfl,hI,hB⟩:=hrel;obtain⟨wi,ho⟩:∃ x,x=wr:=⟨_,rfl⟩;subst ho;by_cases hlt:k<n
  ·obtain⟨b,o,p,rfl,hp,c0,c1⟩:=Ec (h.below hB) hlt;have hm:=hb p (Zc hp);have qY:∀ q,fgo q (l.drop k)=(nmB p.nm&&(match q with | none=>true | some x=>bl x.nm.toList p.nm.toList)&&fgo (some p) (l.drop (k+1))):=fun q=>PR hp;have jA:Hid (Ds l (k+1)=some p):=by show _=_;simp[Ds,hp]
   have hq:(k:Int)<n:=sH;have hr:(0:Int)<=k:=sH;have ha:=fun u=>Dy p.nm u hm.1;have hA:Below wi.heap.size wi (wi.alloc (.cells #[.string p.nm,.string p.d] 39)):=(Yg _ _).alloc (Zd _) _;have z0:(wi.alloc (.cells #[.string p.nm,.string p.d] 39)).cell? ⟨wi.heap.size,0,none⟩=some (.string p.nm):=(Blk.new wi _ _).cell 0;have qe:=Aa hB hA
   cases zF:nmB p.nm
   ·have hf:Hid (fgo none l=false):=by show _=_;rw[hI.out,qY,zF];simp
    clear qY;go_wp2_with fail;generalize wi.alloc (.cells #[.string p.nm,.string p.d] 39)=W at *;have qZ:(fun u=>u.cell? ⟨wi.heap.size,0,none⟩=some (.string p.nm)) W.drew:=z0;refine aC_ (S:=(fun u=>u.cell? ⟨wi.heap.size,0,none⟩=some (.string p.nm))) 19 sI rfl ?_;refine tk 0 ?_;refine tk 1 ?_;refine Ag (i:=2) sI rfl (fun K hK=>?_);go_simp;refine (ha _).mono ?_;rintro e w1 ⟨rfl,rfl⟩;rw[zF];dsimp only;refine hK.out _ _ rQ (fun hHeld=>?_);clear hK K;(try simp only[Act.put,Yj,Yq,Yr]);refine tk 3 ?_;refine tk 4 ?_;refine tku 5 ?_;refine tku 6 ?_;refine tku 7 ?_;refine tku 8 ?_;refine tku 9 ?_;refine tku 10 ?_;refine tku 11 ?_;refine tku 12 ?_;refine tku 13 ?_;refine tku 14 ?_;refine tku 15 ?_;refine tku 16 ?_;refine tku 17 ?_;exact mY
   ·by_cases hk0:k=0
    ·subst hk0;have he:Hid (fgo none l=fgo (Ds l (0+1)) (l.drop (0+1))):=fh;clear qY;simp only[Nat.zero_mul,Nat.add_zero] at c0 c1;go_wp2_with fail;generalize wi.alloc (.cells #[.string p.nm,.string p.d] 39)=W at *;have qZ:(fun u=>u.cell? ⟨wi.heap.size,0,none⟩=some (.string p.nm)) W.drew:=z0;refine aC_ (S:=(fun u=>u.cell? ⟨wi.heap.size,0,none⟩=some (.string p.nm))) 19 sI rfl ?_;refine tk 0 ?_;refine tk 1 ?_;refine Ag (i:=2) sI rfl (fun K hK=>?_);go_simp;refine (ha _).mono ?_;rintro e w1 ⟨rfl,rfl⟩;rw[zF];dsimp only;refine hK.out _ _ rQ (fun hHeld=>?_);clear hK K;(try simp only[Act.put,Yj,Yq,Yr]);refine tk 3 ?_;refine tk 4 ?_;refine tk 5 ?_;refine tk 6 ?_;refine tk 7 ?_;refine tku 8 ?_;refine tku 9 ?_;refine tku 10 ?_;refine tku 11 ?_;refine tku 12 ?_;refine tku 13 ?_;refine tku 14 ?_;refine tku 15 ?_;refine tku 16 ?_;refine tk 17 ?_;refine tk 18 ?_;refine wpAnyH_done sI ?_ _;clear qZ hHeld;go_wp2;go_roundw
     case rel=>exact⟨0+1,sH,sQ,he,Aa qe ((Yg _ _).drew)⟩
     case measure=>simp[intOf];omega
    ·obtain⟨x,hx⟩:∃ x,l[k-1]?=some x:=⟨_,ZI ox⟩;have jB:Hid (Ds l k=some x):=by show _=_;simp[Ds,hk0,hx]
     obtain⟨b2,o2,x2,hl,hg,e0,_⟩:=Ec (h.below qe) (show k-1<n by omega)
     cases hl;rw[hx] at hg
     cases hg;have ht:(0:Int)<k:=sH;have hw:decide ((0:Int)<k)=true:=sN;have hz:0<k:=sH;have hC:decide (0<k)=true:=sN;have hE:IntKind.i64.wrap ((k:Int)-1)=((k-1:Nat):Int):=rj;have hD:((k:Int)-1).toNat=k-1:=sH;have hu:(0:Int)<=((k-1:Nat):Int):=sH;have hv:((k-1:Nat):Int)<n:=sH
     cases zh:bl x.nm.toList p.nm.toList
     ·have hf:Hid (fgo none l=false):=ft;clear qY;go_wp2_with fail;generalize wi.alloc (.cells #[.string p.nm,.string p.d] 39)=W at *;have qZ:(fun u=>u.cell? ⟨wi.heap.size,0,none⟩=some (.string p.nm)∧u.cell? ⟨b,o+(k-1)*2,none⟩=some (.string x.nm)) W.drew:=⟨z0,e0⟩;refine aC_ (S:=(fun u=>u.cell? ⟨wi.heap.size,0,none⟩=some (.string p.nm)∧u.cell? ⟨b,o+(k-1)*2,none⟩=some (.string x.nm))) 19 sI rfl ?_;refine tk 0 ?_;refine tk 1 ?_;refine Ag (i:=2) sI rfl (fun K hK=>?_);go_simp;refine (ha _).mono ?_;rintro e w1 ⟨rfl,rfl⟩;rw[zF];dsimp only;refine hK.out _ _ rQ (fun hHeld=>?_);clear hK K;(try simp only[Act.put,Yj,Yq,Yr]);refine tk 3 ?_;refine tk 4 ?_;refine tk 5 ?_;refine tk 6 ?_;refine tk 7 ?_;refine tk 8 ?_;refine tk 9 ?_;refine tk 10 ?_;refine tk 11 ?_;refine tk 12 ?_;refine tk 13 ?_;refine tk 14 ?_;refine tk 15 ?_;refine tk 16 ?_;refine tk 17 ?_;exact mY
     ·have he:Hid (fgo none l=fgo (Ds l (k+1)) (l.drop (k+1))):=dN;clear qY;go_wp2_with fail;generalize wi.alloc (.cells #[.string p.nm,.string p.d] 39)=W at *;have qZ:(fun u=>u.cell? ⟨wi.heap.size,0,none⟩=some (.string p.nm)∧u.cell? ⟨b,o+(k-1)*2,none⟩=some (.string x.nm)) W.drew:=⟨z0,e0⟩;refine aC_ (S:=(fun u=>u.cell? ⟨wi.heap.size,0,none⟩=some (.string p.nm)∧u.cell? ⟨b,o+(k-1)*2,none⟩=some (.string x.nm))) 19 sI rfl ?_;refine tk 0 ?_;refine tk 1 ?_;refine Ag (i:=2) sI rfl (fun K hK=>?_);go_simp;refine (ha _).mono ?_;rintro e w1 ⟨rfl,rfl⟩;rw[zF];dsimp only;refine hK.out _ _ rQ (fun hHeld=>?_);clear hK K;(try simp only[Act.put,Yj,Yq,Yr]);refine tk 3 ?_;refine tk 4 ?_;refine tk 5 ?_;refine tk 6 ?_;refine tk 7 ?_;refine tk 8 ?_;refine tk 9 ?_;refine tk 10 ?_;refine tk 11 ?_;refine tk 12 ?_;refine tk 13 ?_;refine tk 14 ?_;refine tk 15 ?_;refine tk 16 ?_;refine tk 17 ?_;refine tk 18 ?_;refine wpAnyH_done sI ?_ _;clear qZ hHeld;go_wp2;go_roundw
      case rel=>exact⟨k+1,sH,sQ,he,Aa qe ((Yg _ _).drew)⟩
      case measure=>simp[intOf];omega
  ·obtain rfl:k=n:=sH;have hc:Hid (fgo none l=true):=by
    show _=_;exact ms
   clear hI;go_wp2_with fail;refine (GW a k cap l _ (h.below hB) sH).mono ?_;rintro e w1 ⟨⟨a1,c1,rows,rfl,R1,T1⟩,qe⟩;have hj:=Aa hB qe;have hA:Below w1.heap.size w1 (w1.alloc (.cells #[.slice a1 k c1] 135)):=(Yg _ _).alloc (Zd _) _;have P1:=Blk.new w1 #[.slice a1 k c1] 135;go_wp2_with fail;refine (JL wi.heap.size w1.heap.size a1 k c1 rows (l.map DG) _ P1 (R1.below hA) (T1.below hA) sH (fun y hy=>by obtain⟨f,_,rfl⟩:=ZT.1 hy;simp[DG]) (fun y hy s hs=>by obtain⟨f,hf,rfl⟩:=ZT.1 hy;simp[DG] at hs;subst hs;exact (hb f hf).2)).mono ?_;rintro e w2 ⟨rfl,hh⟩;go_wp2;go_returns;exact⟨by rw[qJ.out,hc.out];simp,Aa (Aa hj hA) hh⟩
end
section
open Go.Shelf Go.RowKit Go.Lib Tryz
def Oj:Go.Shelf.Ren:=⟨fun | 106=>263 | 213=>266 | 265=>268 | n=>n,fun | 9=>9 | 3=>3 | n=>n,fun | n=>n⟩
theorem UK:Lays.n106 prog Oj where
 mixed:=by kernel_rfl
 f106:=func263.trans (congrArg some sI)
 f213:=func266.trans (congrArg some sI)
 f265:=func268.trans (congrArg some sI)
 t3:=underlying3
 a3:=isAgg3
 z3:=sizeOf3
 v3:=zeroValue3
 t9:=underlying9
 a9:=isAgg9
 z9:=sizeOf9
 v9:=zeroValue9
theorem Mj (a b:ByteArray)(w:World):Calls prog 263 #[.string a,.string b] w fun e w'=>e=.returned (.int .i64 (Lib.compareBytes a.toList b.toList))∧w'=w:=by
 rw[Zu,Zu];exact Any.strings_Compare UK a b w
end
section
open Go Go.RowKit Go.BigFrame Tryz
theorem TO {a b:UInt8}(h1:¬ a<b)(h2:¬ b<a):a=b:=UInt8.le_antisymm (UInt8.not_lt.1 h2) (UInt8.not_lt.1 h1)
theorem Rq {a b:UInt8}(h:a<b):¬ a=b:=by rintro rfl;exact UInt8.lt_irrefl _ h
theorem Np:∀ x y:List UInt8,decide (Lib.compareBytes x y<0)=bl x y
 |[],[]=>by simp[Lib.compareBytes,bl,Op.bytesLess]
 |[],_::_=>by simp[Lib.compareBytes,bl,Op.bytesLess]
 |_::_,[]=>by simp[Lib.compareBytes,bl,Op.bytesLess]
 |a::x,b::y=>by
  have ih:=Np x y
  by_cases h1:a<b
  ·simp[Lib.compareBytes,bl,Op.bytesLess,h1]
  ·by_cases h2:b<a
   ·have h3:¬ a=b:=fun e=>Rq h2 e.symm
    simp[Lib.compareBytes,bl,Op.bytesLess,h1,h2,h3]
   ·obtain rfl:=TO h1 h2
    simpa [Lib.compareBytes,bl,Op.bytesLess,h1] using ih
theorem No:∀ x y:List UInt8,decide (Lib.compareBytes x y=0)=(x==y)
 |[],[]=>by simp[Lib.compareBytes]
 |[],_::_=>by simp[Lib.compareBytes]
 |_::_,[]=>by simp[Lib.compareBytes]
 |a::x,b::y=>by
  have ih:=No x y
  by_cases h1:a<b
  ·have h3:=Rq h1
   simp[Lib.compareBytes,h1,h3]
  ·by_cases h2:b<a
   ·have h3:¬ a=b:=fun e=>Rq h2 e.symm
    simp[Lib.compareBytes,h1,h2,h3]
   ·obtain rfl:=TO h1 h2
    simpa [Lib.compareBytes,h1] using ih
theorem GS (nm s:ByteArray)(pa:Option Addr)(pn pc:Nat)(w:World) :
  Calls prog 262 #[.agg #[.string nm,.slice pa pn pc],.string s] w fun e w'=>e=.returned (.int .i64 (Lib.compareBytes nm.toList s.toList))∧Below w.heap.size w w':=by
 go_enter func262,ntmps262;go_wp2_with (go_at_call 263;refine (Mj _ _ _).mono ?_;rintro e w' ⟨rfl,rfl⟩);exact mM
theorem Bo.lo {l:List Hy}(h:Bo l){s:ByteArray}{m:Nat}{y:Hy}(hy:l[m]?=some y)(hb:bl y.nm.toList s.toList=true):∀ (t:Nat) (x:Hy),t<m+1->l[t]?=some x->bl x.nm.toList s.toList=true:=by
 intro t x ht hx;by_cases he:t=m
 ·subst he;rw[hy] at hx;cases hx;exact hb
 ·exact hl_ (h t m x y sH hx hy) hb
theorem Bo.hi {l:List Hy}(h:Bo l){s:ByteArray}{m:Nat}{y:Hy}(hy:l[m]?=some y)(hb:bl y.nm.toList s.toList=false):∀ (t:Nat) (x:Hy),m<=t->l[t]?=some x->bl x.nm.toList s.toList=false:=by
 intro t x ht hx;by_cases he:t=m
 ·subst he;rw[hy] at hx;cases hx;exact hb
 ·cases hc:bl x.nm.toList s.toList
  ·rfl
  ·rw[hl_ (h m t y x sH hy hx) hc] at hb;cases hb
theorem pd{p:Prop}(h:p:=by
 go_wp2_with (go_at_call 262;refine (hc _).mono ?_;rintro e w1 ⟨rfl,qe⟩);go_returns
 exact⟨by rw[zU.out,hh.out];rfl,Aa hB qe⟩):p:=h
theorem d9{p:Prop}(h:p:=by simpa using zX):p:=h
theorem fy{p:Prop}(h:p:=by simpa using hz):p:=h
theorem LE (B:Nat)(a:Option Addr)(n cap:Nat)(rows:List Hr)(l:List Hy)(s:ByteArray)(w:World)(R:Ac hrs 2 192 w B a n cap rows)(T:HsT B w rows l)(hs:Bo l)(hn:n<=4194304) :
  Calls prog 261 #[.slice a n cap,.string s,.func (.func 262) #[] #[]] w fun e w'=>e=.returned (.tuple #[.int .i64 (plH l s:Nat),.bool (B3 l s)])∧Below w.heap.size w w':=by
 have qg:Hid (l.length=n):=r7;have hb:Hid (Bo l):=hs;clear hs;go_enter func261,ntmps261;go_wp2_with fail;go_loopw [9,10,11] (fun i9 i10 _h wr=>∃ (lo hi:Nat),i9=.int .i64 lo∧i10=.int .i64 hi∧lo<=hi∧hi<=n∧Hid ((∀ (t:Nat) (x:Hy),t<lo->l[t]?=some x->bl x.nm.toList s.toList=true)∧(∀ (t:Nat) (x:Hy),hi<=t->l[t]?=some x->bl x.nm.toList s.toList=false))∧Below w.heap.size w wr) (fun i9 i10 _ _=>(intOf i10).toNat-(intOf i9).toNat)
 case atStart=>exact⟨0,n,rfl,rfl,Zg _,Zd _,⟨fun t x h=>absurd h (Nat.not_lt_zero _),fun t x h hx=>by have:=(Zb.1 hx).1;rw[qg.out] at this;omega⟩,Yg _ _⟩
 case round=>
  obtain⟨lo,hi,rfl,rfl,hj,hg,hI,hB⟩:=hrel;by_cases hlt:lo<hi
  ·obtain⟨b,r,y,rfl,hr,hy,hT,c0,c1⟩:=Lx (R.below hB) (T.below hB) (show (lo+hi) / 2<n by omega);obtain⟨rn,pa,pn,pc⟩:=r;simp only at c1;have he:Hid (l[(lo+hi) / 2]?=some y):=hy;have zX:=Np y.nm.toList s.toList;clear hr hy hT;generalize hbl:bl y.nm.toList s.toList=q at zX;have ha:Hid (bl y.nm.toList s.toList=q):=hbl;clear hbl;have hc:=fun u=>GS y.nm s pa pn pc u;generalize Lib.compareBytes y.nm.toList s.toList=z at zX hc
   cases q
   ·have hz:¬ z<0:=d9;clear zX;go_wp2_with (go_at_call 262;refine (hc _).mono ?_;rintro e w1 ⟨rfl,qe⟩);go_roundw
    case rel=>exact⟨lo,(lo+hi) / 2,rfl,sQ,sH,sH,⟨hI.out.1,hb.out.hi he.out ha.out⟩,Aa hB qe⟩
    case measure=>simp[intOf];omega
   ·have hz:z<0:=d9;clear zX;go_wp2_with (go_at_call 262;refine (hc _).mono ?_;rintro e w1 ⟨rfl,qe⟩);go_roundw
    case rel=>exact⟨(lo+hi) / 2+1,hi,sQ,rfl,sH,sH,⟨hb.out.lo he.out ha.out,hI.out.2⟩,Aa hB qe⟩
    case measure=>simp[intOf];omega
  ·obtain rfl:lo=hi:=sH;have zU:Hid (plH l s=lo):=MM ox hI.out.1 hI.out.2;clear hI;by_cases hln:lo<n
   ·obtain⟨b,r,y,rfl,hr,hy,hT,c0,c1⟩:=Lx (R.below hB) (T.below hB) hln;obtain⟨rn,pa,pn,pc⟩:=r;simp only at c1;have hh:Hid (B3 l s=(y.nm.toList==s.toList)):=by show _=_;unfold B3;rw[zU.out,hy]
    have zX:=No y.nm.toList s.toList;clear hr hy hT;have hc:=fun u=>GS y.nm s pa pn pc u;generalize hbl:(y.nm.toList==s.toList)=q at zX hh;clear hbl;generalize Lib.compareBytes y.nm.toList s.toList=z at zX hc;have hf:(lo:Int)<n:=sH
    cases q
    ·have hz:¬ z=0:=d9;have hk:(z==0)=false:=fy;clear zX;exact pd
    ·have hz:z=0:=d9;clear zX;subst hz;exact pd
   ·have hh:Hid (B3 l s=false):=by
     show _=_;unfold B3;rw[zU.out,List.getElem?_eq_none ox]
    have hf:¬ (lo:Int)<n:=sH;go_wp2;go_returns;exact⟨by rw[zU.out,hh.out];rfl,hB⟩
theorem ES (B sb:Nat)(a:Option Addr)(n cap:Nat)(rows:List Hr)(l:List Hy)(s:ByteArray)(w:World)(hS:Blk w sb #[.slice a n cap] 135)(R:Ac hrs 2 192 w B a n cap rows)(T:HsT B w rows l)(hs:Bo l)(hn:n<=4194304) :
  Calls prog 258 #[.pointer (some ⟨sb,0,none⟩),.string s] w fun e w'=>e=.returned (.tuple #[.int .i64 (plH l s:Nat),.bool (B3 l s)])∧Below w.heap.size w w':=by
 have x0:w.cell? ⟨sb,0,none⟩=some (.slice a n cap):=hS.cell 0;have hc:=LE B a n cap rows l s w R T hs hn;clear hS R T hs;generalize plH l s=p at *;generalize B3 l s=q at *;go_enter func258,ntmps258;go_wp2_with (go_at_call 261;refine hc.mono ?_;rintro e w1 ⟨rfl,ha⟩);go_returns;exact⟨rfl,ha⟩
theorem GU (B sb:Nat)(a:Option Addr)(n cap:Nat)(rows:List Hr)(l:List Hy)(s:ByteArray)(w:World)(hS:Blk w sb #[.slice a n cap] 135)(R:Ac hrs 2 192 w B a n cap rows)(T:HsT B w rows l)(hs:Bo l)(hn:n<=4194304) :
  Calls prog 272 #[.pointer (some ⟨sb,0,none⟩),.string s] w fun e w'=>e=.returned (.bool (B3 l s))∧Below w.heap.size w w':=by
 have hc:=ES B sb a n cap rows l s w hS R T hs hn;clear hS R T hs;generalize plH l s=p at *;generalize B3 l s=q at *;go_enter func272,ntmps272;go_wp2_with (go_at_call 258;refine hc.mono ?_;rintro e w1 ⟨rfl,ha⟩);go_returns;exact⟨rfl,ha⟩
theorem Nd {α:Type}{cs:α->List Value}{size:Nat}{P:Program}{o:Oper}{a:Act}{w:World}{K:Act->World->Prop}{Q:Exit->Act->World->Prop}
  (s x:Operand) (t:TypeId) (ho:o.op=.call {callee:=.builtin .append,args:=#[s,x],argTypes:=#[t,t]})
  (e:TypeId) (i:TypeInfo) (ht:P.underlying t=some (.slice e)) (hi:P.info? e=some i) (hsize:i.size=size)
  (hsz:∀ y,(cs y).length=size) (hone:∀ (l:List α),∀ u∈l.flatMap cs,u.oneCell'=true)
  (b dn dcap:Nat) (c:Array Value) (hs:a.eval s=.slice (some ⟨b,0,none⟩) dn dcap) (hb:Blk w b c e)
  (sb so sn scap:Nat) (ls:List α) (hx:a.eval x=.slice (some ⟨sb,so,none⟩) sn scap) (hsrc:AH cs size w (some ⟨sb,so,none⟩) sn ls)
  (hroom:dn+sn<=dcap) (hfit:(dn+sn)*size<=c.size)
  (h:∀ w',Blk w' b (c.toList.take (dn*size)++ls.flatMap cs++c.toList.drop ((dn+sn)*size)).toArray e->w.grownBy w' (some b)->w'.heap.size=w.heap.size->K (a.put o.dst (.slice (some ⟨b,0,none⟩) (dn+sn) dcap)) w'):o.wp P a w K Q:=by
 subst hsize;have hl:(ls.flatMap cs).length=sn*i.size:=oh;have hr:=run_append_room (P:=P) w t o.type e i ht hi b dn dcap c hb ⟨sb,so,none⟩ sn scap (ls.flatMap cs) hl (AH.src hsz hsrc) (hone ls) hroom (by rw[hl,<-Yd];exact hfit);rw[hl,<-Yd] at hr;unfold Oper.wp execOp;simp only[ho,resolve,invoke,builtin,Sem.run_bind,Sem.run_pure,Result.andThen_ok,List.map_toArray,YD,List.map_nil,hs,hx,hr];exact h _ (setRow_heap w b c _ e _ hb) ⟨rfl,rfl,rfl,sK,fun k _ hk=>setRow_other w b k _ (fun e=>hk dH)⟩ sK
theorem Jo {P:Program}(w:World)(t e ty:TypeId)(z:Value)(ht:P.underlying t=some (.slice e))(hv:∀ w,(zeroValue e).run P w=.ok z w)(zs:List Value)(hz:z.cells.toList=zs)(h1:∀ u∈zs,u.oneCell'=true)(b o cp:Nat)(c:Array Value)(e':TypeId)(hb:Blk w b c e')(hfit:o+zs.length<=c.size) :
  (Builtin.clear_ #[t] ty #[.slice (some ⟨b,o,none⟩) 1 cp]).run P w=.ok (.tuple #[]) (w.setRow b (c.toList.take o++zs++c.toList.drop (o+zs.length)).toArray):=by
 have hc:(Builtin.zeroCells z.cells 1).toList=zs:=by
  rw[<-hz];congr 1;apply Array.ext
  ·simp[Builtin.zeroCells]
  ·intro j h1 h2;simp[Builtin.zeroCells,Nat.mod_eq_of_lt h2];exact getElem!_pos z.cells j h2
 have ha:=run_storeCells_at P b o e' zs 0 c w hb (by simpa using hfit) h1;simp only[Nat.add_zero] at ha;simp[Builtin.clear_,YY ht,hv,hc,ha]
theorem Mx (w:World)(b:Nat)(c:Array Value):w.grownBy (w.setRow b c) (some b):=⟨rfl,rfl,rfl,sK,fun k _ hk=>setRow_other w b k _ (fun e=>hk dH)⟩
theorem Oi {P:Program}(w:World)(t e:TypeId)(z:Value)(ht:P.underlying t=some (.slice e))(hv:∀ w,(zeroValue e).run P w=.ok z w)(zs:List Value)(hz:z.cells.toList=zs)(h1:∀ u∈zs,u.oneCell'=true)(b o cp:Nat)(c:Array Value)(e':TypeId)(hb:Blk w b c e')(hfit:o+zs.length<=c.size) :
  ∃ W2,(∀ ty,(Builtin.clear_ #[t] ty #[.slice (some ⟨b,o,none⟩) 1 cp]).run P w=.ok (.tuple #[]) W2)∧Blk W2 b (c.toList.take o++zs++c.toList.drop (o+zs.length)).toArray e'∧w.grownBy W2 (some b)∧W2.heap.size=w.heap.size:=
 ⟨_,fun ty=>Jo w t e ty z ht hv zs hz h1 b o cp c e' hb hfit,hb.row,Mx _ _ _,sK⟩
theorem RC:∀ w:World,(zeroValue 192).run prog w=.ok (.agg #[.string .empty,.slice none 0 0]) w:=zeroValue192
theorem Mw {α:Type}{cs:α->List Value}(l:List α)(p:Nat):(l.eraseIdx p).flatMap cs=(l.take p).flatMap cs++(l.drop (p+1)).flatMap cs:=by
 rw[List.eraseIdx_eq_take_drop_succ,ZQ]
theorem On {α:Type}{cs:α->List Value}{sz:Nat}(hsz:∀ x,(cs x).length=sz){c:Array Value}{n cap p:Nat}{l:List α}{zs:List Value}(hz:zs.length=sz)(hl:l.length=n)(hp:p<n)(hn:n<=cap)(hc:c.size=cap*sz)(ht:c.toList.take (n*sz)=l.flatMap cs) :
  let c1:=(c.toList.take (p*sz)++(l.drop (p+1)).flatMap cs++c.toList.drop ((n-1)*sz)).toArray
  let c2:=(c1.toList.take ((n-1)*sz)++zs++c1.toList.drop ((n-1)*sz+zs.length)).toArray
  c1.size=cap*sz∧c2.size=cap*sz∧c2.toList.take ((n-1)*sz)=(l.eraseIdx p).flatMap cs:=by
 intro c1 c2;have e0:c.toList.take (p*sz)=(l.take p).flatMap cs:=by
  rw[<-cq_ hsz,<-ht,List.take_take,ZZ (ZS _ sH)]
 have e1:(l.eraseIdx p).length=n-1:=by rw[List.length_eraseIdx,hl];simp[hp]
 have e2:c1.toList=(l.eraseIdx p).flatMap cs++c.toList.drop ((n-1)*sz):=by
  show (c.toList.take (p*sz)++(l.drop (p+1)).flatMap cs++c.toList.drop ((n-1)*sz))=_;rw[e0,Mw]
 have e3:((l.eraseIdx p).flatMap cs).length=(n-1)*sz:=by rw[aY_ hsz,e1]
 have h1:(n-1)*sz+sz=n*sz:=by rw[<-Nat.succ_mul];congr 1;omega
 have h2:n*sz<=cap*sz:=ZS _ hn;have s1:c1.size=cap*sz:=by
  rw[<-Array.length_toList,e2,ZE,e3,List.length_drop,Array.length_toList,hc];omega
 have e4:c1.toList.take ((n-1)*sz)=(l.eraseIdx p).flatMap cs:=by rw[e2,<-e3,List.take_left]
 have e5:c2.toList=(l.eraseIdx p).flatMap cs++zs++c1.toList.drop ((n-1)*sz+zs.length):=by
  show (c1.toList.take ((n-1)*sz)++zs++c1.toList.drop ((n-1)*sz+zs.length))=_;rw[e4]
 have s2:c1.toList.length=cap*sz:=by rw[Array.length_toList];exact s1
 refine ⟨s1,?_,?_⟩
 ·rw[<-Array.length_toList,e5,ZE,ZE,e3,List.length_drop,s2,hz];omega
 ·rw[e5,ZC,<-e3,List.take_left]
theorem DM {α:Type}{cs:α->List Value}{sz:Nat}(hsz:∀ x,(cs x).length=sz){t:TypeId}{w:World}{B b n cap:Nat}{l:List α}{c:Array Value}(hb:Blk w b c t)(hB:B<=b)(hl:l.length=n)(hn:n<=cap)(hm:cap<=maxLen)(hc:c.size=cap*sz)(ht:c.toList.take (n*sz)=l.flatMap cs):Ac cs sz t w B (some ⟨b,0,none⟩) n cap l:=by
 refine ⟨⟨hl,fun i x hx=>⟨b,0,rfl,fun j v hv=>?_⟩⟩,.inr ⟨b,rfl,hB,hn,hm,c,hb,hc,ht⟩⟩;have h:=i5_ hsz l hx hv;rw[<-ht] at h;rw[List.getElem?_take] at h;split at h
 ·rw[Zq,hb.cell,<-Array.getElem?_toList];exact h
 ·cases h
theorem pi{p:Prop}(h:p:=by
 have h:=Qj
 cases hh:prog.info? 192 with
 |none=>rw[hh] at h;cases h
 |some i0=>rw[hh] at h;simp at h;exact⟨i0,rfl,h.1,h.2.1,h.2.2⟩):p:=h
theorem Lu (B b n cap p:Nat)(rows:List Hr)(w:World)(R:Ac hrs 2 192 w B (some ⟨b,0,none⟩) n cap rows)(hp:p<n)(hn:n<=4194304) :
  Calls prog 259 #[.slice (some ⟨b,0,none⟩) n cap,.int .i64 p,.int .i64 ((p:Int)+1)] w fun e w'=>e=.returned (.slice (some ⟨b,0,none⟩) (n-1) cap)∧Ac hrs 2 192 w' B (some ⟨b,0,none⟩) (n-1) cap (rows.eraseIdx p)∧w.grownBy w' (some b)∧w'.heap.size=w.heap.size:=by
 have he:=R.sl.len;rcases R.own with⟨h0,_⟩ | ⟨b',ha,hB,hC,hw,c,hb,hc,ht⟩
 ·cases h0
 cases ha;have hg:=On (zs:=[.string .empty,.slice none 0 0]) Be rfl he hp hC hc ht;replace hg:Hid _:=hg;obtain⟨i0,hi,hR,hD,hS⟩:∃ i0,prog.info? 192=some i0∧i0.zero=some (.agg #[.string .empty,.slice none 0 0])∧i0.size=2∧i0.bytes=40:=by
  exact pi
 obtain⟨so,hA,hl⟩:∃ so:Nat,(if cap=p+1 then some (⟨b,0,none⟩:Addr) else some ⟨b,(p+1)*2,none⟩)=some ⟨b,so,none⟩∧Hid (AH hrs 2 w.drew (some ⟨b,so,none⟩) (n-(p+1)) (rows.drop (p+1))):=by
  by_cases h:cap=p+1
  ·exact⟨0,dh,⟨by simp[he],fun i x hx=>by
    have:=(Zb.1 hx).1
    simp[he] at this;omega⟩⟩
  ·refine ⟨(p+1)*2,dh,⟨by simp[he],fun i x hx=>⟨b,_,rfl,fun j v hv=>?_⟩⟩⟩;rw[List.getElem?_drop] at hx;obtain⟨b2,o2,e2,hu⟩:=R.sl.cell _ _ hx
   cases e2;have:=hu j v hv;show w.cell? _=_;rw[<-this];congr 2;omega
 have hy:(rows.eraseIdx p).length=n-1:=by rw[List.length_eraseIdx,he];simp[hp]
 have hH:p<=cap:=sH;have hL:p+1<=cap:=sH;have hz:Hid (2<=c.size∧(p+(n-(p+1)))*2<=c.size):=by
  show _∧_;omega
 have ho:p+(n-(p+1))=n-1:=sH;clear R ht he;have hF:¬ ((p:Int)=(p:Int)+1):=sH;have hI:(0:Int)<=(p:Int)+1:=sH;have hJ:(p:Int)+1<=n:=sH;go_enter func259,ntmps259;go_wp2_with fail;have hs:(fun _:World=>True) w.drew:=trivial;refine aC_ (S:=(fun _=>True)) 8 sI rfl ?_;refine tk 0 ?_;refine tk 1 ?_;refine tk 2 ?_;refine tk 3 ?_;refine tk 4 ?_;refine tk 5 ?_;refine Ag (i:=6) sI rfl (fun K hK=>?_);refine aJ_ rfl (Nd _ _ _ rfl 192 i0 underlying133 hi hD Be FY b p cap c rfl hb b so (n-(p+1)) (cap-(p+1)) (rows.drop (p+1)) rfl hl.out sH hz.out.2 (fun w1 P1 hf hq=>?_));rw[ho] at P1;rw[ho];dsimp only;refine hK.out _ _ trivial (fun hHeld=>?_);clear hK K;(try simp only[Act.put,Yj,Yq,Yr]);refine tk 7 ?_;refine wpAnyH_done sI ?_ _;obtain⟨W2,hE,P2,hj,hr⟩:=Oi (P:=prog) w1 133 192 _ underlying133 RC [.string .empty,.slice none 0 0] rfl (by simp[Value.oneCell']) b ((n-1)*2) (cap-(n-1)) _ 192 P1 (by rw[hg.out.1];simp only[Zw,YK];omega);have R2:=DM (l:=rows.eraseIdx p) Be P2 hB hy sH hw hg.out.2.1 hg.out.2.2;clear P1 P2 hHeld hs;have hG:Hid (w.grownBy W2 (some b)):=⟨hj.os.trans hf.os,hj.tape.trans hf.tape,hj.output.trans hf.output,by have:=hf.size;have:=hj.size;simp at *;omega,fun k hk hm=>(hj.block k (by have:=hf.size;simp at this;omega) hm).trans (hf.block k hk hm)⟩;have hZ:Hid (W2.heap.size=w.heap.size):=by show _=_;rw[hr,hq];rfl
 clear hf hj hq hr hg;have hM:n-(n-1)=1:=sH;have hN:¬ cap=n-1:=sH;have hO:((n-1:Nat):Int)<=n:=sH;have hP:(0:Int)<=((n-1:Nat):Int):=sH;have hQ:(n:Int)<=cap:=sH;go_wp2;go_returns;exact⟨rfl,R2,hG.out,hZ.out⟩
theorem Iz (B sb:Nat)(a:Option Addr)(n cap:Nat)(rows:List Hr)(l:List Hy)(s:ByteArray)(w:World)(hS:Blk w sb #[.slice a n cap] 135)(R:Ac hrs 2 192 w B a n cap rows)(T:HsT B w rows l)(hs:Bo l)(hn:n<=4194304)(hh:B3 l s=false) :
  Calls prog 256 #[.pointer (some ⟨sb,0,none⟩),.string s] w fun e w'=>e=.returned (.agg #[.string s,.slice none 0 0])∧Below w.heap.size w w':=by
 have hA:Below w.heap.size w (w.alloc (.cells #[.string .empty,.slice none 0 0] 192)):=(Yg _ _).alloc (Zd _) _;have D:=Blk.new w #[.string .empty,.slice none 0 0] 192;have hc:=ES B sb a n cap rows l s _ (hS.below hA) (R.below hA) (T.below hA) hs hn;rw[hh] at hc;generalize plH l s=p at hc;clear hS R T hs hh;go_enter func256,ntmps256;go_wp2_with fail;refine hc.mono ?_;rintro e w1 ⟨rfl,ha⟩;have D1:=D.below ha;have hb:=Aa hA ha;clear hc D hA ha;have z0:=D1.cell 0;have z1:=D1.cell 1;have q0:=D1.frozen 0;have q1:=D1.frozen 1;simp only[Yp,Yo,Yt] at z0 z1;go_wp2;have D2:=(D1.set 0 (.string s)).set 1 (.slice none 0 0);simp only[Yj,Yq,Yr] at D2;have hg:w1.grownBy ((w1.setCell ⟨w.heap.size,0,none⟩ (.string s)).setCell ⟨w.heap.size,1,none⟩ (.slice none 0 0)) (some w.heap.size):=af_ (af_ (Yh _ _) _ _) _ _;have he:=hb.grown hg hb.size (fun j e=>by cases e;exact Zd _);generalize (w1.setCell ⟨w.heap.size,0,none⟩ (.string s)).setCell ⟨w.heap.size,1,none⟩ (.slice none 0 0)=W8 at *;refine YW (results_cell_row rfl _ W8 w.heap.size _ _ _ _ rfl D2 underlying192 rfl sI) rfl ?_;exact⟨rfl,he⟩
theorem Dm {α:Type}{l:List α}{p i:Nat}{x:α}(h:(l.eraseIdx p)[i]?=some x):∃ j,l[j]?=some x∧j≠p∧j=(if i<p then i else i+1):=by
 rw[List.getElem?_eraseIdx] at h;split at h
 ·exact⟨i,h,sH,by simp[*]⟩
 ·exact⟨i+1,h,sH,by simp[*]⟩
theorem HsT.erase {B:Nat}{w:World}{rows:List Hr}{l:List Hy}(h:HsT B w rows l)(p:Nat):HsT B w (rows.eraseIdx p) (l.eraseIdx p):=by
 refine ⟨by rw[List.length_eraseIdx,List.length_eraseIdx,h.len],fun i r y h1 h2=>?_,fun i j r s x y ha h1 h2 hx hy=>?_⟩
 ·obtain⟨j1,g1,_,e1⟩:=Dm h1;obtain⟨j2,g2,_,e2⟩:=Dm h2;rw[<-e1] at e2;subst e2;exact h.at' _ r y g1 g2
 ·obtain⟨j1,g1,_,e1⟩:=Dm h1;obtain⟨j2,g2,_,e2⟩:=Dm h2;exact h.apart j1 j2 r s x y (by split at e1<;>split at e2<;>omega) g1 g2 hx hy
theorem FrS.from {sb:Nat}{a:Option Addr}{w0 w w':World}(h:FrS sb a w w')(hb:Below w0.heap.size w0 w):FrS sb a w0 w':=fun k hk h1 h2=>(h k (Zy hk hb.size) h1 h2).trans (hb.block k hk)
theorem FrS.blk {sb:Nat}{a:Option Addr}{w w':World}(h:FrS sb a w w'){k:Nat}{c:Array Value}{t:TypeId}(hk:Blk w k c t)(h1:k≠sb)(h2:∀ ad,a=some ad->k≠ad.block):Blk w' k c t:=by
 unfold Blk;rw[h k hk.lt h1 h2];exact hk
structure Ig (B B0 sb:Nat)(a:Option Addr)(n cap p:Nat)(rows:List Hr)(l:List Hy)(r:Hr)(y:Hy)(w w':World):Prop where
 sh:Blk w' sb #[.slice a (n-1) cap] 135
 res:Ac hrs 2 192 w' B a (n-1) cap (rows.eraseIdx p)
 its:HsT B w' (rows.eraseIdx p) (l.eraseIdx p)
 one:HT B w' r y
 low:Below B0 w w'
 fr:FrS sb a w w'
theorem mr{p:Prop}(h:p:=by
 unfold B3 at hh
 cases hq:l[plH l s]? with
 |none=>rw[hq] at hh;cases hh
 |some y=>rw[hq] at hh;exact⟨y,rfl,by simpa using hh⟩):p:=h
theorem r8{p:Prop}(h:p:=by rw[<-T.len];exact R.sl.len):p:=h
theorem dj{p:Prop}(h:p:=by have:=qk.size;omega):p:=h
theorem FD (B B0 sb:Nat)(a:Option Addr)(n cap:Nat)(rows:List Hr)(l:List Hy)(s:ByteArray)(w:World)(hS:Blk w sb #[.slice a n cap] 135)(R:Ac hrs 2 192 w B a n cap rows)(T:HsT B w rows l)(hs:Bo l)(hn:n<=4194304)(hh:B3 l s=true)(h0:B0<=B)(h1:B0<=sb) :
  Calls prog 256 #[.pointer (some ⟨sb,0,none⟩),.string s] w fun e w'=>∃ r y,rows[plH l s]?=some r∧l[plH l s]?=some y∧y.nm.toList=s.toList∧e=.returned (.agg #[.string y.nm,.slice r.pa r.pn r.pc])∧Ig B B0 sb a n cap (plH l s) rows l r y w w':=by
 have hA:Below w.heap.size w (w.alloc (.cells #[.string .empty,.slice none 0 0] 192)):=(Yg _ _).alloc (Zd _) _;have D:=Blk.new w #[.string .empty,.slice none 0 0] 192;have hc:=ES B sb a n cap rows l s _ (hS.below hA) (R.below hA) (T.below hA) hs hn;have hj:l.length=n:=r8;obtain⟨y,hy,hz⟩:∃ y,l[plH l s]?=some y∧y.nm.toList=s.toList:=by
  exact mr
 rw[hh] at hc;generalize plH l s=p at *;have hp:p<n:=by rw[<-hj];exact (Zb.1 hy).1
 have hM:=hS.lt;obtain⟨b,r,y',rfl,hr,hB,hT,c0,c1⟩:=Lx R T hp;rw[hy] at hB
 cases hB;have hm:Hid (∃ c,Blk w b c 192):=by
  rcases R.own with⟨e,_⟩ | ⟨b',e,_,_,_,c,hb,_⟩
  ·cases e
  ·cases e;exact⟨c,hb⟩
 have hH:B<=b:=(R.block _ rfl).1;have hI:b<w.heap.size:=(R.block _ rfl).2;have hF:sb≠b:=by
  rintro rfl;obtain⟨c,hb⟩:=hm.out;unfold Blk at hS hb;rw[hS] at hb
  cases hb
 have hv:Hid (l[p]?=some y∧y.nm.toList=s.toList∧rows[p]?=some r):=⟨hy,hz,hr⟩;clear hy hz hr hs hh;have hG:∀ u,Below w.heap.size w u->Blk u sb #[.slice (some ⟨b,0,none⟩) n cap] 135∧Ac hrs 2 192 u B (some ⟨b,0,none⟩) n cap rows∧HsT B u rows l∧HT B u r y∧u.cell? ⟨b,p*2,none⟩=some (.string y.nm)∧u.cell? ⟨b,p*2+1,none⟩=some (.slice r.pa r.pn r.pc):=fun u hu=>⟨hS.below hu,R.below hu,T.below hu,hT.below hu,Ab hu c0,Ab hu c1⟩;clear hS R T hT c0 c1 hj;obtain⟨rn,pa,pn,pc⟩:=r;simp only at hG;have hJ:(p:Int)<n:=sH;have hK:(0:Int)<=p:=sH;go_enter func256,ntmps256;go_wp2_with fail;refine hc.mono ?_;rintro e w1 ⟨rfl,hl⟩;have D1:=D.below hl;have hk:=Aa hA hl;clear hc D hA hl;obtain⟨S1,R1,T1,N1,d0,d1⟩:=hG w1 hk;clear hG;have x0:=S1.one;have ha:Below w1.heap.size w1 (w1.alloc (.cells #[.string y.nm,.slice pa pn pc] 192)):=(Yg _ _).alloc (Zd _) _;have xa:=fun ob=>Aj (w:=w1) ob x0;have hN:=hk.size;have hO:=D1.lt;go_wp2_with fail;obtain⟨cb,hx⟩:=hm.out;have hw:=(hx.below hk).below ha;have ht:=aa_ hw;have S2:=S1.below ha;have D2:=D1.below ha;have F2:=Blk.new w1 #[.string y.nm,.slice pa pn pc] 192;have T2:=T1.below ha;have N2:=N1.below ha;have qk:=Aa hk ha;refine (Lu B b n cap p rows _ (R1.below ha) hp hn).mono ?_;rintro e w3 ⟨rfl,R3,he,hL⟩;have S3:=S2.grown he hF;have D3:=D2.grown he (show w.heap.size≠b by omega);have F3:=F2.grown he (show w1.heap.size≠b by omega);have T3:=(T2.erase p).ty he ht sJ;have N3:=N2.ty he ht sJ;have hC:Below B0 w w3:=Yi (qk.mono (show B0<=w.heap.size by omega)) he dj (fun j e=>by cases e;omega);have F4:FrS sb (some ⟨b,0,none⟩) w w3:=(FrS.of qk).grown qk.size he (fun k e=>.inr (.inl ⟨_,rfl,by cases e;rfl⟩));have ho:w.heap.size<=w3.heap.size:=dj;clear hm hx hw ht S2 D2 F2 T2 N2 qk S1 R1 T1 N1 D1 he ha x0 xa d0 d1;have y0:=S3.one;have y1:=S3.frozen 0;have z0:=D3.cell 0;have z1:=D3.cell 1;have q0:=D3.frozen 0;have q1:=D3.frozen 1;have v0:=F3.cell 0;have v1:=F3.cell 1;simp only[Yp,Yo,Yt] at z0 z1 v0 v1;have n1:¬ sb=w1.heap.size:=sH;have n2:¬ w1.heap.size=sb:=sH;have n3:¬ sb=w.heap.size:=sH;have n4:¬ w.heap.size=sb:=sH;have n5:¬ w.heap.size=w1.heap.size:=sH;have n6:¬ w1.heap.size=w.heap.size:=sH;go_wp2;have hf:w3.grownBy (w3.setCell ⟨sb,0,none⟩ (.slice (some ⟨b,0,none⟩) (n-1) cap)) (some sb):=af_ (Yh _ _) _ _;have S4:Blk (w3.setCell ⟨sb,0,none⟩ (.slice (some ⟨b,0,none⟩) (n-1) cap)) sb #[.slice (some ⟨b,0,none⟩) (n-1) cap] 135:=by simpa using S3.set 0 (.slice (some ⟨b,0,none⟩) (n-1) cap)
 have R4:=R3.ty hf (aa_ S3) sJ;have T4:=T3.ty hf (aa_ S3) sJ;have N4:=N3.ty hf (aa_ S3) sJ;have D4:=D3.grown hf n4;have hP:=D3.lt;have hD:=hC.grown hf sH (fun j e=>by cases e;omega);have hQ:=D4.lt;have F5:=F4.grown ho hf (fun k e=>.inl (by cases e;rfl));generalize w3.setCell ⟨sb,0,none⟩ (.slice (some ⟨b,0,none⟩) (n-1) cap)=w4 at *;have hg:w4.grownBy ((w4.setCell ⟨w.heap.size,0,none⟩ (.string y.nm)).setCell ⟨w.heap.size,1,none⟩ (.slice pa pn pc)) (some w.heap.size):=af_ (af_ (Yh _ _) _ _) _ _;have D5:=(D4.set 0 (.string y.nm)).set 1 (.slice pa pn pc);simp only[Yj,Yq,Yr] at D5;have S5:=S4.grown hg n3;have R5:=R4.grown hg (fun ad e=>by cases e;simp only;omega);have T5:=T4.ty hg (aa_ D4) sJ;have N5:=N4.ty hg (aa_ D4) sJ;have F6:=F5.grown sH hg (fun k e=>.inr (.inr (by cases e;exact Zd _)));have hE:=hD.grown hg sH (fun j e=>by cases e;omega);generalize (w4.setCell ⟨w.heap.size,0,none⟩ (.string y.nm)).setCell ⟨w.heap.size,1,none⟩ (.slice pa pn pc)=W8 at *;refine YW (results_cell_row rfl _ W8 w.heap.size _ _ _ _ rfl D5 underlying192 rfl sI) rfl ?_;exact⟨⟨rn,pa,pn,pc⟩,y,hv.out.2.2,hv.out.1,hv.out.2.1,rfl,⟨S5,R5,T5,N5,hE,F6⟩⟩
def DC (ps:List ByteArray):ByteArray:=⟨(Lib.join (ps.map (·.data.toList)) []).toArray⟩
def Am (y:Hy):Fl:=⟨y.nm,DC y.ps⟩
theorem OC (ps:List ByteArray):Lib.lens (ps.map (·.data.toList))=Cw ps:=by
 induction ps with
 |nil=>rfl
 |cons x r ih=>simp[Lib.lens,Cw] at ih ⊢;rw[ih]
theorem LJ (ps:List ByteArray):(Lib.join (ps.map (·.data.toList)) []).length=Cw ps:=by
 cases ps with
 |nil=>rfl
 |cons x r=>
  have h:=OC (x::r);rw[YD] at h;rw[YD,Lib.join_length,h];simp
theorem Rh (a:Option Addr)(n cap:Nat)(ps:List ByteArray)(w:World)(h:AH sps 1 w a n ps)(hc:n<=cap)(hlt:∀ ad,a=some ad->ad.block<w.heap.size)(hsum:Cw ps<=140737488355328)(hn:n<=4194304) :
  Calls prog 130 #[.slice a n cap,.string ⟨#[]⟩] w fun e w'=>e=.returned (.string (DC ps))∧Below w.heap.size w w':=by
 have hl:=h.len
 cases ps with
 |nil=>
  simp at hl;subst hl;refine (Any.strings_Join_none jnL jnX a cap ⟨#[]⟩ w).mono ?_;rintro e w' ⟨rfl,rfl⟩;exact⟨rfl,Yg _ _⟩
 |cons x r=>
  obtain⟨b,o,rfl,_⟩:=h.cell 0 x rfl;subst hl;refine Any.strings_Join jnL jnX b o cap (x::r) ⟨#[]⟩ w (fun j y hy=>?_) (hlt _ rfl) sH hc (by rw[show (⟨#[]⟩:ByteArray).data.toList=[] from rfl,LJ];exact hsum);obtain⟨b',o',e,ha⟩:=h.cell j y hy
  cases e;have:=ha 0 _ rfl;simpa using this
theorem MB (B sb:Nat)(a:Option Addr)(n cap:Nat)(rows:List Hr)(l:List Hy)(w:World)(hS:Blk w sb #[.slice a n cap] 135)(R:Ac hrs 2 192 w B a n cap rows)(T:HsT B w rows l)(hn:n<=4194304)(hp:∀ y∈l,y.ps.length<=4194304)(hsum:Da l<=200000) :
  Calls prog 80 #[.pointer (some ⟨sb,0,none⟩)] w fun e w'=>(∃ a' cap',e=.returned (.slice a' n cap')∧Ac Fl.cs 2 39 w' w.heap.size a' n cap' (l.map Am))∧Below w.heap.size w w':=by
 have he:Hid (l.length=n):=r7;have x0:=hS.one;go_enter func80,ntmps80;go_wp2_with fail;go_loopw [3,5,11] (fun out _f ix wr=>∃ (k:Nat) (a2:Option Addr) (c2:Nat),k<=n∧ix=.int .i64 k∧out=.slice a2 k c2∧Ac Fl.cs 2 39 wr w.heap.size a2 k c2 ((l.take k).map Am)∧Below w.heap.size w wr) (fun _ _ ix _=>n-(intOf ix).toNat)
 case atStart=>exact⟨0,none,0,Zg _,rfl,rfl,by simpa using aB_,Yg _ _⟩
 case round=>
  obtain⟨k,a2,c2,hk,rfl,rfl,R2,hB⟩:=hrel;by_cases hlt:k<n
  ·obtain⟨b,r,y,rfl,hr,hy,hT,c0,c1⟩:=Lx (R.below hB) (T.below hB) hlt;have hq:Hid ((l.take (k+1)).map Am=(l.take k).map Am++[Am y]):=by
    show _=_;rw[bx_ hy,List.map_append];rfl
   have hu:Cw y.ps<=200000:=by
    have h1:=J1 hy;have h2:=NW l (k+1);omega
   have hg:y.ps.length=r.pn:=hT.ps.sl.len;have hh:r.pn<=4194304:=by rw[<-hg];exact hp y (Zc hy)
   clear hr hy hg;generalize (l.take k).map Am=G at *;obtain⟨rn,pa,pn,pc⟩:=r;simp only at c1 hh;have ho:pn<=pc:=by
    rcases hT.ps.own with⟨_,h1,h2⟩ | ⟨_,_,_,h1,_⟩
    ·simp only at h1 h2;omega
    ·exact h1
   have hs:(k:Int)<n:=sH;have ht:(0:Int)<=k:=sH;have hA:Below wr.heap.size wr (wr.alloc (.cells #[.string y.nm,.slice pa pn pc] 192)):=(Yg _ _).alloc (Zd _) _;have F:=Blk.new wr #[.string y.nm,.slice pa pn pc] 192;have hv:=hB.size;go_wp2_with fail;generalize wr.alloc (.cells #[.string y.nm,.slice pa pn pc] 192)=W at *;have hw:=hA.size;have hl:(fun u=>u.cell? ⟨wr.heap.size,0,none⟩=some (.string y.nm)∧u.cell? ⟨wr.heap.size,1,none⟩=some (.slice pa pn pc)) W.drew:=⟨F.cell 0,F.cell 1⟩;refine aC_ (S:=(fun u=>u.cell? ⟨wr.heap.size,0,none⟩=some (.string y.nm)∧u.cell? ⟨wr.heap.size,1,none⟩=some (.slice pa pn pc))) 10 sI rfl ?_;refine tk 0 ?_;refine tk 1 ?_;refine tk 2 ?_;refine tk 3 ?_;refine tk 4 ?_;refine Ag (i:=5) sI rfl (fun K hK=>?_);go_simp;refine (Rh pa pn pc y.ps _ ((hT.ps.sl.below hA).below (Yg _ _).drew) ho (fun ad e=>by have:=(hT.ps.block ad e).2;show ad.block<W.heap.size;omega) sH hh).mono ?_;rintro e w1 ⟨rfl,hb⟩;dsimp only;have F1:=(F.below (Yg _ _).drew).below hb;have hc:=Aa (Aa hB hA) (Aa (Yg _ _).drew hb);have R3:=((R2.below hA).below (Yg _ _).drew).below hb;refine hK.out _ _ ⟨F1.cell 0,F1.cell 1⟩ (fun hHeld=>?_);clear hK K;(try simp only[Act.put,Yj,Yq,Yr]);refine tk 6 ?_;refine Ag (i:=7) sI rfl (fun K hK=>?_);go_simp;have ha:Below w1.heap.size w1 (w1.alloc (.cells #[.string y.nm,.string (DC y.ps)] 39)):=(Yg _ _).alloc (Zd _) _;have F4:=F1.below ha;refine hK.out _ _ ⟨F4.cell 0,F4.cell 1⟩ (fun hHeld=>?_);clear hK K;(try simp only[Act.put,Yj,Yq,Yr]);refine Ag (i:=8) sI rfl (fun K hK=>?_);refine aJ_ rfl (Cl _ _ rfl w.heap.size a2 k c2 G rfl (R3.below ha) _ 1 1 [Am y] rfl (Ef _ (Am y) _ _ rfl) (fun ad h=>sV) (fun h=>sY) (k+1) rfl sH (by have:=hc.size;simp;omega) (fun a3 c3 w3 R5 hf=>?_));have F5:=F4.ty hf ((R3.below ha).rowTy (m:=k) (k:=c2)) sJ;have hj:Below w.heap.size w w3:=Yi (Aa hc ha) hf (Aa hc ha).size (aG_ fun ad hm=>(R3.block ad hm).1);dsimp only;refine hK.out _ _ ⟨F5.cell 0,F5.cell 1⟩ (fun hHeld=>?_);clear hK K;(try simp only[Act.put,Yj,Yq,Yr]);refine tk 9 ?_;refine wpAnyH_done sI ?_ _;clear hl hHeld;go_wp2;go_roundw
   case rel=>exact⟨k+1,a3,c3,sH,sQ,rfl,by rw[hq.out];exact R5,hj⟩
   case measure=>simp[intOf];omega
  ·obtain rfl:k=n:=sH;rw[Zk (Zm he.out)] at R2;go_wp2;go_returns;exact⟨⟨a2,c2,rfl,R2⟩,hB⟩
def chV (o:Dp):Value:=if o.k=1 then .iface 194 (.agg #[.string o.nm,.string o.d]) else if o.k=2 then .iface 196 (.agg #[.string o.nm,.string o.tt]) else .iface 198 (.agg #[.string o.nm])
theorem Ir (d:ByteArray):emB d=d.toList.isEmpty:=by
 have h:(⟨#[]⟩:ByteArray).toList=[]:=by simp[Zu]
 unfold emB;rw[h]
 cases d.toList<;>rfl
theorem mJ{p:Prop}(h:p:=by
 go_enter func77,ntmps77;go_wp2_with (go_at_call 129;refine (qu _).mono ?_;rintro e w1 ⟨rfl,rfl⟩);go_returns
 exact⟨⟨_,by rw[hf.out];rfl,fun h=>by rw[hf.out] at h;cases h⟩,hA⟩):p:=h
theorem m6{p:Prop}(h:p:=by
 go_wp2;go_returns
 exact⟨⟨_,by rw[hf.out];rfl,fun _=>rfl⟩,hA.drew⟩):p:=h
theorem pT{p:Prop}(h:p:=by
 go_wp2;go_returns
 exact⟨⟨_,by rw[hf.out];rfl,fun h=>by rw[hf.out] at h;cases h⟩,hA.drew⟩):p:=h
theorem Jk (k:Int)(nm tt d:ByteArray)(w:World)(h1:nm.size<=9223372036854775807)(h2:tt.size<=9223372036854775807) :
  Calls prog 77 #[.agg #[.int .i64 k,.string nm,.string tt,.string d]] w fun e w'=>(∃ v,e=.returned (.tuple #[v,.bool (AP ⟨k,nm,tt,d⟩)])∧(AP ⟨k,nm,tt,d⟩=true->v=chV ⟨k,nm,tt,d⟩))∧Below w.heap.size w w':=by
 have qu:=fun u=>Dy nm u h1;have ha:=fun u=>Dy tt u h2;have hA:Below w.heap.size w (w.alloc (.cells #[.int .i64 k,.string nm,.string tt,.string d] 89)):=(Yg _ _).alloc (Zd _) _;have D:=Blk.new w #[.int .i64 k,.string nm,.string tt,.string d] 89
 cases hn:nmB nm
 ·have hf:Hid (AP ⟨k,nm,tt,d⟩=false):=fg;rw[hn] at qu;exact mJ
 ·rw[hn] at qu;by_cases hk1:k=1
  ·subst hk1;have hf:Hid (AP ⟨1,nm,tt,d⟩=tt.toList.isEmpty):=by show _=_;simp[AP,hn,Ir]
   go_enter func77,ntmps77;go_wp2_with (go_at_call 129;refine (qu _).mono ?_;rintro e w1 ⟨rfl,rfl⟩);generalize w.alloc (.cells #[.int .i64 1,.string nm,.string tt,.string d] 89)=W at *;have hb:(fun u=>u.cell? ⟨w.heap.size,1,none⟩=some (.string nm)∧u.cell? ⟨w.heap.size,2,none⟩=some (.string tt)∧u.cell? ⟨w.heap.size,3,none⟩=some (.string d)) W.drew:=⟨D.cell 1,D.cell 2,D.cell 3⟩;refine aC_ (S:=(fun u=>u.cell? ⟨w.heap.size,1,none⟩=some (.string nm)∧u.cell? ⟨w.heap.size,2,none⟩=some (.string tt)∧u.cell? ⟨w.heap.size,3,none⟩=some (.string d))) 11 sI rfl ?_;refine tk 0 ?_;refine tk 1 ?_;refine tk 2 ?_;refine tk 3 ?_;refine tk 4 ?_;refine tk 5 ?_;refine tk 6 ?_;refine tk 7 ?_;refine tk 8 ?_;refine tk 9 ?_;refine tk 10 ?_;refine wpAnyH_done sI ?_ _;clear hb;exact m6
  ·by_cases hk2:k=2
   ·subst hk2
    cases ht:nmB tt
    ·have hf:Hid (AP ⟨2,nm,tt,d⟩=false):=by show _=_;simp[AP,hn,ht,Ir]
     rw[ht] at ha;go_enter func77,ntmps77;go_wp2_with (go_at_call 129;refine (qu _).mono ?_;rintro e w1 ⟨rfl,rfl⟩);generalize w.alloc (.cells #[.int .i64 2,.string nm,.string tt,.string d] 89)=W at *;have hb:(fun u=>u.cell? ⟨w.heap.size,1,none⟩=some (.string nm)∧u.cell? ⟨w.heap.size,2,none⟩=some (.string tt)∧u.cell? ⟨w.heap.size,3,none⟩=some (.string d)) W.drew:=⟨D.cell 1,D.cell 2,D.cell 3⟩;refine aC_ (S:=(fun u=>u.cell? ⟨w.heap.size,1,none⟩=some (.string nm)∧u.cell? ⟨w.heap.size,2,none⟩=some (.string tt)∧u.cell? ⟨w.heap.size,3,none⟩=some (.string d))) 16 sI rfl ?_;refine tk 0 ?_;refine tk 1 ?_;refine tk 2 ?_;refine tk 3 ?_;refine tk 4 ?_;refine tk 5 ?_;refine tk 6 ?_;refine tk 7 ?_;refine Ag (i:=8) sI rfl (fun K hK=>?_);go_simp;refine (ha _).mono ?_;rintro e w1 ⟨rfl,rfl⟩;dsimp only;refine hK.out _ _ rQ (fun hHeld=>?_);clear hK K;(try simp only[Act.put,Yj,Yq,Yr]);refine tk 9 ?_;refine tku 10 ?_;refine tku 11 ?_;refine tku 12 ?_;refine tk 13 ?_;refine tk 14 ?_;refine tk 15 ?_;refine wpAnyH_done sI ?_ _;clear hb hHeld;exact pT
    ·have hf:Hid (AP ⟨2,nm,tt,d⟩=d.toList.isEmpty):=by show _=_;simp[AP,hn,ht,Ir]
     rw[ht] at ha;go_enter func77,ntmps77;go_wp2_with (go_at_call 129;refine (qu _).mono ?_;rintro e w1 ⟨rfl,rfl⟩);generalize w.alloc (.cells #[.int .i64 2,.string nm,.string tt,.string d] 89)=W at *;have hb:(fun u=>u.cell? ⟨w.heap.size,1,none⟩=some (.string nm)∧u.cell? ⟨w.heap.size,2,none⟩=some (.string tt)∧u.cell? ⟨w.heap.size,3,none⟩=some (.string d)) W.drew:=⟨D.cell 1,D.cell 2,D.cell 3⟩;refine aC_ (S:=(fun u=>u.cell? ⟨w.heap.size,1,none⟩=some (.string nm)∧u.cell? ⟨w.heap.size,2,none⟩=some (.string tt)∧u.cell? ⟨w.heap.size,3,none⟩=some (.string d))) 16 sI rfl ?_;refine tk 0 ?_;refine tk 1 ?_;refine tk 2 ?_;refine tk 3 ?_;refine tk 4 ?_;refine tk 5 ?_;refine tk 6 ?_;refine tk 7 ?_;refine Ag (i:=8) sI rfl (fun K hK=>?_);go_simp;refine (ha _).mono ?_;rintro e w1 ⟨rfl,rfl⟩;dsimp only;refine hK.out _ _ rQ (fun hHeld=>?_);clear hK K;(try simp only[Act.put,Yj,Yq,Yr]);refine tk 9 ?_;refine tk 10 ?_;refine tk 11 ?_;refine tk 12 ?_;refine tk 13 ?_;refine tk 14 ?_;refine tk 15 ?_;refine wpAnyH_done sI ?_ _;clear hb hHeld;exact m6
   ·by_cases hk3:k=3
    ·subst hk3
     cases ht:emB tt
     ·have hf:Hid (AP ⟨3,nm,tt,d⟩=false):=by show _=_;simp[AP,hn,ht];try rw[Ir]
      have hq:tt.toList.isEmpty=false:=by rw[<-Ir];exact ht
      have hc:¬ tt.toList=(⟨#[]⟩:ByteArray).toList:=by simpa [emB] using ht
      go_enter func77,ntmps77;go_wp2_with (go_at_call 129;refine (qu _).mono ?_;rintro e w1 ⟨rfl,rfl⟩);generalize w.alloc (.cells #[.int .i64 3,.string nm,.string tt,.string d] 89)=W at *;have hb:(fun u=>u.cell? ⟨w.heap.size,1,none⟩=some (.string nm)∧u.cell? ⟨w.heap.size,2,none⟩=some (.string tt)∧u.cell? ⟨w.heap.size,3,none⟩=some (.string d)) W.drew:=⟨D.cell 1,D.cell 2,D.cell 3⟩;refine aC_ (S:=(fun u=>u.cell? ⟨w.heap.size,1,none⟩=some (.string nm)∧u.cell? ⟨w.heap.size,2,none⟩=some (.string tt)∧u.cell? ⟨w.heap.size,3,none⟩=some (.string d))) 14 sI rfl ?_;refine tk 0 ?_;refine tk 1 ?_;refine tk 2 ?_;refine tk 3 ?_;refine tk 4 ?_;refine tk 5 ?_;refine tk 6 ?_;refine tk 7 ?_;refine tku 8 ?_;refine tku 9 ?_;refine tku 10 ?_;refine tk 11 ?_;refine tk 12 ?_;refine tk 13 ?_;refine wpAnyH_done sI ?_ _;clear hb;exact pT
     ·have hf:Hid (AP ⟨3,nm,tt,d⟩=d.toList.isEmpty):=by show _=_;simp[AP,hn,ht];try rw[Ir]
      have hq:tt.toList.isEmpty=true:=by rw[<-Ir];exact ht
      have hc:tt.toList=(⟨#[]⟩:ByteArray).toList:=by simpa [emB] using ht
      go_enter func77,ntmps77;go_wp2_with (go_at_call 129;refine (qu _).mono ?_;rintro e w1 ⟨rfl,rfl⟩);generalize w.alloc (.cells #[.int .i64 3,.string nm,.string tt,.string d] 89)=W at *;have hb:(fun u=>u.cell? ⟨w.heap.size,1,none⟩=some (.string nm)∧u.cell? ⟨w.heap.size,2,none⟩=some (.string tt)∧u.cell? ⟨w.heap.size,3,none⟩=some (.string d)) W.drew:=⟨D.cell 1,D.cell 2,D.cell 3⟩;refine aC_ (S:=(fun u=>u.cell? ⟨w.heap.size,1,none⟩=some (.string nm)∧u.cell? ⟨w.heap.size,2,none⟩=some (.string tt)∧u.cell? ⟨w.heap.size,3,none⟩=some (.string d))) 14 sI rfl ?_;refine tk 0 ?_;refine tk 1 ?_;refine tk 2 ?_;refine tk 3 ?_;refine tk 4 ?_;refine tk 5 ?_;refine tk 6 ?_;refine tk 7 ?_;refine tk 8 ?_;refine tk 9 ?_;refine tk 10 ?_;refine tk 11 ?_;refine tk 12 ?_;refine tk 13 ?_;refine wpAnyH_done sI ?_ _;clear hb;exact m6
    ·have hf:Hid (AP ⟨k,nm,tt,d⟩=false):=by
      show _=_;have:¬ (1<=k∧k<=3):=sH;simp only[AP];by_cases h1:1<=k
      ·have h3:¬ k<=3:=sH;simp[h3]
      ·simp[h1]
     exact mJ
theorem pH{p:Prop}(h:p:=by
 go_wp2_with (go_at_call 272;refine hc.mono ?_;rintro e w1 ⟨rfl,qe⟩);go_returns
 exact⟨rfl,Aa hA qe⟩):p:=h
theorem Ht (B sb:Nat)(a:Option Addr)(n cap:Nat)(rows:List Hr)(l:List Hy)(s:ByteArray)(w:World)(hS:Blk w sb #[.slice a n cap] 135)(R:Ac hrs 2 192 w B a n cap rows)(T:HsT B w rows l)(hs:Bo l)(hn:n<=4194304)(hh:B3 l s=false) :
  Calls prog 273 #[.agg #[.string s],.pointer (some ⟨sb,0,none⟩)] w fun e w'=>e=.returned (.bool false)∧Below w.heap.size w w':=by
 have hA:Below w.heap.size w (w.alloc (.cells #[.string s] 198)):=(Yg _ _).alloc (Zd _) _;have hc:=GU B sb a n cap rows l s _ (hS.below hA) (R.below hA) (T.below hA) hs hn;rw[hh] at hc;clear hS R T hs hh;go_enter func273,ntmps273;exact pH
theorem Ig.from {B B0 sb:Nat}{a:Option Addr}{n cap p:Nat}{rows:List Hr}{l:List Hy}{r:Hr}{y:Hy}{w0 w w':World}(h:Ig B B0 sb a n cap p rows l r y w w')(hb:Below w0.heap.size w0 w)(h0:B0<=w0.heap.size):Ig B B0 sb a n cap p rows l r y w0 w':=
 ⟨h.sh,h.res,h.its,h.one,(hb.mono h0).trans h.low,h.fr.from hb⟩
theorem Hu (B B0 sb:Nat)(a:Option Addr)(n cap:Nat)(rows:List Hr)(l:List Hy)(s:ByteArray)(w:World)(hS:Blk w sb #[.slice a n cap] 135)(R:Ac hrs 2 192 w B a n cap rows)(T:HsT B w rows l)(hs:Bo l)(hn:n<=4194304)(hh:B3 l s=true)(h0:B0<=B)(h1:B0<=sb) :
  Calls prog 273 #[.agg #[.string s],.pointer (some ⟨sb,0,none⟩)] w fun e w'=>e=.returned (.bool true)∧∃ r y,Ig B B0 sb a n cap (plH l s) rows l r y w w':=by
 have hA:Below w.heap.size w (w.alloc (.cells #[.string s] 198)):=(Yg _ _).alloc (Zd _) _;have D:=Blk.new w #[.string s] 198;have he:=hS.lt;have hc:=GU B sb a n cap rows l s _ (hS.below hA) (R.below hA) (T.below hA) hs hn;have hl:=fun u (hu:Below w.heap.size w u)=>FD B B0 sb a n cap rows l s u (hS.below hu) (R.below hu) (T.below hu) hs hn hh h0 h1;rw[hh] at hc;clear hS R T hs hh;generalize plH l s=p at *;go_enter func273,ntmps273;go_wp2_with fail;refine hc.mono ?_;rintro e w1 ⟨rfl,ha⟩;have hb:=Aa hA ha;have d0:=(D.below ha).one;clear hc D hA ha;go_wp2_with fail;refine (hl w1 hb).mono ?_;rintro e w2 ⟨r,y,_,_,_,rfl,L⟩;have L2:=L.from hb sH;clear L hl;go_wp2;go_returns;exact⟨rfl,r,y,L2⟩
theorem UV (p q:Fl)(w:World):(binOp .neq 39 (.agg #[.string p.nm,.string p.d]) (.agg #[.string q.nm,.string q.d])).run prog w=.ok (.bool (!Is p q)) w:=by
 have u9:=underlying9;have a9:=isAgg9;have z9:=sizeOf9;have hS:prog.underlying 39=some (.struct (prog.fieldsOf 39)):=sI;have hp:prog.stoodInHeld 39=false:=sI;rw[run_neq_struct,show (10000:Nat)=9999+1 from rfl,run_equalIn_agg w 9999 39 _ _ hS hp];simp only[Program.fieldsOf,underlying39];clear hS hp;go_simp;unfold Is;by_cases h1:p.nm.toList=q.nm.toList<;>by_cases h2:p.d.toList=q.d.toList<;>simp[h1,h2]
theorem Lq (a:Option Addr)(n cap:Nat)(l:List Fl)(a':Option Addr)(n' cap':Nat)(m:List Fl)(w:World)(h:Dz w a n l)(h':Dz w a' n' m)(hn:n<=4194304)(hn':n'<=4194304) :
  Calls prog 79 #[.slice a n cap,.slice a' n' cap'] w fun e w'=>e=.returned (.bool (BV l m))∧Below w.heap.size w w':=by
 have qg:Hid (l.length=n):=h.len;have qM:Hid (m.length=n'):=h'.len;by_cases hne:n=n'
 ·subst hne;have hc:((n:Int) != (n:Int))=false:=sK;go_enter func79,ntmps79;go_wp2_with fail;go_loopw [5,13] (fun _i ix wr=>∃ (k:Nat),k<=n∧ix=.int .i64 k∧Hid (BV l m=BV (l.drop k) (m.drop k))∧Below w.heap.size w wr) (fun _ ix _=>n-(intOf ix).toNat)
  case atStart=>exact⟨0,Zg _,rfl,rfl,Yg _ _⟩
  case round=>
   obtain⟨k,hk,rfl,hI,hB⟩:=hrel;by_cases hlt:k<n
   ·obtain⟨b,o,p,rfl,hp,c0,c1⟩:=Ec (h.below hB) hlt;obtain⟨b',o',q,rfl,hq,d0,d1⟩:=Ec (h'.below hB) hlt;have hd:Hid (l.drop k=p::l.drop (k+1)):=al_ hp;have kr:Hid (m.drop k=q::m.drop (k+1)):=al_ hq;clear hp hq;have he:(k:Int)<n:=sH;have hf:(0:Int)<=k:=sH;have hb:=UV p q
    cases zu:Is p q;all_goals rw[zu] at hb
    ·go_wp2_with fail;go_quiet (fail);have ha:=below_drewN hB nq;go_wp2;go_returns;go_light;refine ⟨ac_ ?_,ha⟩;rw[hI.out,hd.out,kr.out];simp only[BV,zu,Zr]
    ·go_wp2_with fail;go_quiet (fail);have ha:=below_drewN hB nq;go_wp2;go_roundw
     case rel=>exact⟨k+1,sH,sQ,dB,ha⟩
     case measure=>simp[intOf];omega
   ·exact px
 ·have hc:((n:Int) != (n':Int))=true:=sN;go_enter func79,ntmps79;exact pL
end
end Go.Proofs.YteejlahappbalaaGreatDoor
