/- A copy of items. -/
import Derived.Lib.Overlaps
import Derived.Laws.CopyOwn
import Derived.Test.YtdmeabghpchckaaGreatDoorU10
import Derived.Test.YtdmeabghpchckaaGreatDoorU15
set_option maxHeartbeats 20000000
set_option maxRecDepth 100000
namespace Go.Proofs.YtdmeabghpchckaaGreatDoor
section
open Go Go.RowKit Go.BigFrame Tryz
structure FrL (bs:List Nat)(w w':World):Prop where
 os:w'.os=w.os
 tape:w'.tape=w.tape
 output:w'.output=w.output
 size:w.heap.size<=w'.heap.size
 block:∀ k,k<w.heap.size->k∉bs->w'.heap[k]?=w.heap[k]?
theorem FrL.trans {bs:List Nat}{w w1 w2:World}(h:FrL bs w w1)(h':FrL bs w1 w2):FrL bs w w2:=
 ⟨h'.os.trans h.os,h'.tape.trans h.tape,h'.output.trans h.output,Zl h.size h'.size,fun k hk hn=>(h'.block k (Zy hk h.size) hn).trans (h.block k hk hn)⟩
structure Gy (B:Nat)(w:World)(r:IR)(y:It):Prop where
 nm:r.nm=y.nm
 ps:AM w r.pa r.pn y.ps
 hd:Hd B r.pa r.pn r.pc
theorem Gy.below {B:Nat}{w w':World}{r:IR}{y:It}(h:Gy B w r y)(hb:Below w.heap.size w w'):Gy B w' r y:=⟨h.nm,h.ps.below hb,h.hd⟩
structure GB (B:Nat)(w:World)(r:VR)(y:Vo):Prop where
 id:r.id=y.id
 nm:r.nm=y.nm
 fx:r.fx=y.fx
 its:Bf B w r.pa r.pn y.its
 hd:Hd B r.pa r.pn r.pc
theorem GB.below {B:Nat}{w w':World}{r:VR}{y:Vo}(h:GB B w r y)(hb:Below w.heap.size w w'):GB B w' r y:=⟨h.id,h.nm,h.fx,h.its.below hb,h.hd⟩
def Cw (rows:List VR):Prop:=∀ (i j:Nat) (r s:VR) (x y:Addr),i≠j->rows[i]?=some r->rows[j]?=some s->r.pa=some x->s.pa=some y->x.block≠y.block
def BG (B:Nat)(w:World)(v:Value)(p:Po)(rows:List VR):Prop:=
 ∃ ea en ec va vn vc ra rn rc la ln lc,v=.agg #[.int .i64 p.size,.int .i64 p.next,.slice ea en ec,.slice va vn vc,.slice ra rn rc,.slice la ln lc]∧
  Ad Ex.cs 2 42 w B ea en ec p.ex∧(Ad vrs 4 38 w B va vn vc rows∧Ax B w rows p.vs)∧Ad Ct.cs 4 46 w B ra rn rc p.rf∧Ad Ct.cs 4 46 w B la ln lc p.lt∧(∀ x y,ra=some x->la=some y->0<rc->0<lc->x.block≠y.block)∧Cw rows∧NP w rows
theorem FrL.new {bs cs:List Nat}{w w1 w2:World}(h:FrL bs w w1)(h':FrL cs w1 w2)(hc:∀ k∈cs,k∈bs∨w.heap.size<=k):FrL bs w w2:=
 ⟨h'.os.trans h.os,h'.tape.trans h.tape,h'.output.trans h.output,Zl h.size h'.size,fun k hk hn=>(h'.block k (Zy hk h.size) (fun hm=>(hc k hm).elim (fun h1=>hn h1) (fun h1=>absurd hk (by omega)))).trans (h.block k hk hn)⟩
theorem FrL.mono {bs cs:List Nat}{w w':World}(h:FrL bs w w')(hs:∀ k∈bs,k∈cs):FrL cs w w':=⟨h.os,h.tape,h.output,h.size,fun k hk hn=>h.block k hk (fun hm=>hn (hs k hm))⟩
theorem FrL.below {bs:List Nat}{w0 w w':World}(h:Below w0.heap.size w0 w)(h':FrL bs w w')(hb:∀ k∈bs,w0.heap.size<=k):Below w0.heap.size w0 w':=
 ⟨h'.os.trans h.os,h'.tape.trans h.tape,h'.output.trans h.output,Zl h.size h'.size,fun k hk=>(h'.block k (Zy hk h.size) (fun hm=>by have:=hb k hm;omega)).trans (h.block k hk)⟩
def EP (l:List It):Prop:=l.Pairwise (fun a b=>bl a.nm.toList b.nm.toList=true)
theorem Blk.row {w:World}{b:Nat}{c c':Array Value}{t:TypeId}(h:Blk w b c t):Blk (w.setRow b c') b c' t:=setRow_heap w b c c' t _ h
theorem aC_ {P:Program}{ops:Array Oper}{Q:Exit->Act->World->Prop}{S:World->Prop}{id:Nat}{a:Act}{w:World}(n:Nat)(hm:P.follows .mixedOrders=true)(hn:ops.size=n)
  (h:wpAnyH P .any ops Q S n (Array.replicate n false) a w.drew):(Code.region id ops true).wp P Q a w:=by
 subst hn;exact wp_region_held hm h
theorem jp_ {α β:Type}:∀ (l:List α) (P:Nat->α->β->Prop),(∀ (i:Nat) (x:α),l[i]?=some x->∃ r,P i x r)->∃ rows:List β,rows.length=l.length∧∀ (i:Nat) (x:α) (r:β),l[i]?=some x->rows[i]?=some r->P i x r
 |[],_,_=>⟨[],rfl,fun i x r h=>by simp at h⟩
 |x::t,P,h=>by
  obtain⟨r0,h0⟩:=h 0 x rfl;obtain⟨rows,hl,hr⟩:=jp_ t (fun i=>P (i+1)) (fun i y hy=>h (i+1) y (by simpa using hy));refine⟨r0::rows,by simp[hl],fun i y r h1 h2=>?_⟩
  cases i with
  |zero=>simp at h1 h2;subst h1 h2;exact h0
  |succ i=>exact hr i y r (by simpa using h1) (by simpa using h2)
theorem Bf.rowsA {B:Nat}{w:World}{a:Option Addr}{n:Nat}{l:List It}(h:Bf B w a n l):∃ rows:List IR,AE irs 2 w a n rows∧rows.length=n∧∀ (i:Nat) (y:It) (r:IR),l[i]?=some y->rows[i]?=some r->Gy B w r y:=by
 obtain⟨rows,hl,hr⟩:=jp_ l (fun i y (r:IR)=>(∃ b o,a=some ⟨b,o,none⟩∧w.cell? ⟨b,o+i*2,none⟩=some (.string r.nm)∧w.cell? ⟨b,o+i*2+1,none⟩=some (.slice r.pa r.pn r.pc))∧Gy B w r y) (fun i y hy=>by
  obtain⟨b,o,pa,pn,pc,ha,c0,c1,hp,hh,_⟩:=h.cell i y hy;exact⟨⟨y.nm,pa,pn,pc⟩,⟨b,o,ha,c0,c1⟩,⟨rfl,hp,hh⟩⟩)
 refine⟨rows,⟨by rw[hl,h.len],fun i r hb=>?_⟩,by rw[hl,h.len],fun i y r h1 h2=>(hr i y r h1 h2).2⟩;have hi:=(Zb.1 hb).1;rw[hl] at hi;obtain⟨⟨b,o,ha,c0,c1⟩,_⟩:=hr i l[i] r (by simp[hi]) hb;refine⟨b,o,ha,fun j v hv=>?_⟩;rcases j with _ | _ | j
 ·simp[irs] at hv;subst hv;exact c0
 ·simp[irs] at hv;subst hv;exact c1
 ·simp[irs] at hv
theorem Hd.args {B:Nat}{a:Option Addr}{n cap:Nat}(h:Hd B a n cap)(hB:0<B):(∀ ad,a=some ad->ad.spot=none)∧(a=none->n=0∧cap=0):=by
 obtain⟨h1,h2,h3⟩:=h;obtain⟨h4,h5⟩:=h3 hB;exact⟨h5,fun e=>by have:=h4 e;omega⟩
theorem er_ (B:Nat)(hB:0<B)(a:Option Addr)(n cap:Nat)(its:List It)(w:World)(h:Bf B w a n its)(hh:Hd B a n cap)(hn:n<=4194304)(hp:∀ y∈its,y.ps.length<=4194304):
  Calls prog 59 #[.slice a n cap] w fun e w'=>(∃ a' cap' rows,e=.returned (.slice a' n cap')∧Ad irs 2 134 w' w.heap.size a' n cap' rows∧AC w.heap.size w' rows its∧(bkI rows).Nodup)∧Below w.heap.size w w':=by
 obtain⟨rows0,S0,hN,hG⟩:=h.rowsA;have hc:Hid (its.length=n):=h.len;obtain⟨k1,k2⟩:=hh.args hB;clear h hh;go_enter func59,ntmps59
 go_wp2_with fail
 refine (nk_ a n cap rows0 w S0 hn k1 k2).mono ?_;rintro e w1 ⟨⟨a1,c1,rfl,R1⟩,hu⟩
 go_wp2_with fail
 go_loopw [3,8] (fun _ ix wr=>∃ (k:Nat) (rows:List IR),k<=n∧ix=.int .i64 k∧Ad irs 2 134 wr w.heap.size a1 n c1 rows∧Hid (∀ (i:Nat) (r:IR) (y:It),i<k->rows[i]?=some r->its[i]?=some y->BU w.heap.size wr r y)∧Hid (∀ (i:Nat) (r:IR),k<=i->rows[i]?=some r->rows0[i]?=some r)∧Hid (∀ (i j:Nat) (r s:IR) (x y:Addr),i<k->j<k->i≠j->rows[i]?=some r->rows[j]?=some s->r.pa=some x->s.pa=some y->x.block≠y.block)∧Below w.heap.size w wr) (fun _ ix _=>n-(intOf ix).toNat)
 case atStart=>exact⟨0,rows0,Zg _,rfl,R1,fun i r y hi=>by omega,fun i r _ hr=>hr,fun i j r s x y hi=>by omega,hu⟩
 case round=>
  clear R1 hu;obtain⟨k,rows,hk,rfl,R,ha,hb,hl,hm⟩:=hrel;have hI:rows.length=n:=R.sl.len;by_cases hlt:k<n
  ·have hL:(k:Int)<n:=by omega
   have hM:(0:Int)<=k:=by omega
   obtain⟨b,rfl,hw,hO,hK⟩:=R.addr (by omega);have hq:k<rows.length:=by omega
   obtain⟨r,hr⟩:∃ r,rows[k]?=some r:=⟨rows[k],by simp[hq]⟩;have hE:k<its.length:=by rw[hc.out];exact hlt
   obtain⟨y,hy⟩:∃ y,its[k]?=some y:=⟨its[k],by simp[hE]⟩;have hA:=(hG k y r hy (hb.out k r (Zd _) hr)).below hm;have x1:wr.cell? ⟨b,k*2+1,none⟩=some (.slice r.pa r.pn r.pc):=R.cellAt hr rfl;have hF:r.pn<=4194304:=by rw[<-hA.ps.len];exact hp y (Zc hy)
   obtain⟨q1,q2⟩:=hA.hd.args hB
   go_wp2_with fail
   refine (nl_ r.pa r.pn r.pc y.ps wr hA.ps hF q1 q2).mono ?_;rintro e w2 ⟨⟨a2,c2,rfl,R2⟩,hs⟩;have RR:=R.below hs;have hC:=Aa hm hs;have hx:w.heap.size<=wr.heap.size:=hm.size;obtain⟨cc,ht⟩:=RR.blkAt;have x2:w2.cell? ⟨b,k*2+1,none⟩=some (.slice r.pa r.pn r.pc):=RR.cellAt hr rfl;have f2:=ht.frozen (k*2+1);clear x1;go_wp2;have hg:w2.grownBy (w2.setCell ⟨b,k*2+1,none⟩ (.slice a2 r.pn c2)) (some b):=af_ (Yh _ _) _ _;have R3:=RR.set1 (x':=⟨r.nm,a2,r.pn,c2⟩) (v:=.slice a2 r.pn c2) aI_ hr (j:=1) (by decide) rfl;have R4:=(R2.ty hg (aa_ ht) (by decide)).mono hx;have hv:=ao_ hC hg hw
   have hz:Hid (∀ (i:Nat) (r':IR) (y':It),i<k+1->(rows.set k ⟨r.nm,a2,r.pn,c2⟩)[i]?=some r'->its[i]?=some y'->BU w.heap.size (w2.setCell ⟨b,k*2+1,none⟩ (.slice a2 r.pn c2)) r' y'):=fun i r' y' hi h1 h2=>by
    by_cases hik:k=i
    ·subst hik;rw[Zx hq] at h1
     cases h1
     rw[hy] at h2
     cases h2
     exact⟨hA.nm,R4⟩
    ·rw[ZJ hik] at h1
     have:=(ha.out i r' y' (by omega) h1 h2).below hs
     exact⟨this.nm,this.ps.ty hg (aa_ ht) (by decide)⟩
   have hH:Hid (∀ (i:Nat) (r':IR),k+1<=i->(rows.set k ⟨r.nm,a2,r.pn,c2⟩)[i]?=some r'->rows0[i]?=some r'):=fun i r' hi h1=>by
    rw[ZJ (by omega)] at h1;exact hb.out i r' (by omega) h1
   have hf:∀ (i:Nat) (r':IR) (x:Addr),i<k->rows[i]?=some r'->r'.pa=some x->x.block<wr.heap.size:=fun i r' x hi h1 h2=>by
    have hD:i<its.length:=by rw[hc.out];omega
    exact ((ha.out i r' its[i] hi h1 (by simp[hD])).ps.block x h2).2
   have he:∀ x,a2=some x->wr.heap.size<=x.block:=fun x e=>(R2.block x e).1
   have hJ:Hid (∀ (i j:Nat) (r' s:IR) (x y:Addr),i<k+1->j<k+1->i≠j->(rows.set k ⟨r.nm,a2,r.pn,c2⟩)[i]?=some r'->(rows.set k ⟨r.nm,a2,r.pn,c2⟩)[j]?=some s->r'.pa=some x->s.pa=some y->x.block≠y.block):=fun i j r' s x y hi hj ho h1 h2 e1 e2=>by
    by_cases hik:k=i
    ·subst hik;rw[Zx hq] at h1
     cases h1
     rw[ZJ ho] at h2;have q1:=he x e1;have q2:=hf j s y (by omega) h2 e2;omega
    ·rw[ZJ hik] at h1;have q2:=hf i r' x (by omega) h1 e1;by_cases hjk:k=j
     ·subst hjk;rw[Zx hq] at h2
      cases h2
      have q1:=he y e2;omega
     ·rw[ZJ hjk] at h2;exact hl.out i j r' s x y (by omega) (by omega) ho h1 h2 e1 e2
   go_roundw
   case rel=>exact⟨k+1,_,by omega,by go_num,R3,hz,hH,hJ,hv⟩
   case measure=>simp[intOf];omega
  ·obtain rfl:k=n:=by omega
   go_wp2;go_returns;exact⟨⟨a1,c1,rows,rfl,R,⟨by rw[hI,hc.out],fun i r y h1 h2=>ha.out i r y (by have:=(Zb.1 h1).1;omega) h1 h2⟩,ng_ (fun i j r s x y ho h1 h2 e1 e2=>hl.out i j r s x y (by have:=(Zb.1 h1).1;omega) (by have:=(Zb.1 h2).1;omega) ho h1 h2 e1 e2)⟩,hm⟩
theorem Ba.rowsA {B:Nat}{w:World}{a:Option Addr}{n:Nat}{l:List Vo}(h:Ba B w a n l):∃ rows:List VR,AE vrs 4 w a n rows∧rows.length=n∧∀ (i:Nat) (y:Vo) (r:VR),l[i]?=some y->rows[i]?=some r->GB B w r y:=by
 obtain⟨rows,hl,hr⟩:=jp_ l (fun i y (r:VR)=>(∃ b o,a=some ⟨b,o,none⟩∧w.cell? ⟨b,o+i*4,none⟩=some (.int .i64 r.id)∧w.cell? ⟨b,o+i*4+1,none⟩=some (.string r.nm)∧w.cell? ⟨b,o+i*4+2,none⟩=some (.bool r.fx)∧w.cell? ⟨b,o+i*4+3,none⟩=some (.slice r.pa r.pn r.pc))∧GB B w r y) (fun i y hy=>by
  obtain⟨b,o,pa,pn,pc,ha,c0,c1,c2,c3,hi,hh,_⟩:=h.cell i y hy;exact⟨⟨y.id,y.nm,y.fx,pa,pn,pc⟩,⟨b,o,ha,c0,c1,c2,c3⟩,⟨rfl,rfl,rfl,hi,hh⟩⟩)
 refine⟨rows,⟨by rw[hl,h.len],fun i r hb=>?_⟩,by rw[hl,h.len],fun i y r h1 h2=>(hr i y r h1 h2).2⟩;have hi:=(Zb.1 hb).1;rw[hl] at hi;obtain⟨⟨b,o,ha,c0,c1,c2,c3⟩,_⟩:=hr i l[i] r (by simp[hi]) hb;refine⟨b,o,ha,fun j v hv=>?_⟩;rcases j with _ | _ | _ | _ | j
 ·simp[vrs] at hv;subst hv;exact c0
 ·simp[vrs] at hv;subst hv;exact c1
 ·simp[vrs] at hv;subst hv;exact c2
 ·simp[vrs] at hv;subst hv;exact c3
 ·simp[vrs] at hv
theorem BG.t {B:Nat}{w:World}{v:Value}{p:Po}{rows:List VR}(h:BG B w v p rows):Al B w v p:=by
 obtain⟨ea,en,ec,va,vn,vc,ra,rn,rc,la,ln,lc,hv,h1,h2,h3,h4,h5,_⟩:=h;exact⟨ea,en,ec,va,vn,vc,ra,rn,rc,la,ln,lc,rows,hv,h1,h2,h3,h4,h5⟩
theorem BU.low {B k:Nat}{w w':World}{r:IR}{y:It}(h:BU B w r y)(hg:w.grownBy w' (some k))(hk:k<B):BU B w' r y:=⟨h.nm,h.ps.grown hg (fun ad e=>by have:=(h.ps.block ad e).1;omega)⟩
theorem Bd.low {B k:Nat}{w w':World}{r:VR}{y:Vo}(h:Bd B w r y)(hg:w.grownBy w' (some k))(hk:k<B):Bd B w' r y:=by
 obtain⟨e1,e2,e3,rs,R,T⟩:=h;exact⟨e1,e2,e3,rs,R.grown hg (fun ad e=>by have:=(R.block ad e).1;omega),T.len,fun i r y h1 h2=>(T.at' i r y h1 h2).low hg hk⟩
theorem Ax.low {B k:Nat}{w w':World}{rows:List VR}{l:List Vo}(h:Ax B w rows l)(hg:w.grownBy w' (some k))(hk:k<B):Ax B w' rows l:=⟨h.len,fun i r y h1 h2=>(h.at' i r y h1 h2).low hg hk⟩
def HW (p:Po):Prop:=p.ex.length<=4194304∧p.vs.length<=4194304∧p.rf.length<=4194304∧p.lt.length<=4194304∧∀ v∈p.vs,v.its.length<=4194304∧∀ y∈v.its,y.ps.length<=4194304
theorem ff_ (B:Nat)(hB:0<B)(v:Value)(p:Po)(w:World)(h:AF B w v p)(hd:HW p):
  Calls prog 23 #[v] w fun e w'=>(∃ v' rows,e=.returned v'∧BG w.heap.size w' v' p rows)∧Below w.heap.size w w':=by
 obtain⟨ea,en,ec,va,vn,vc,ra,rn,rc,la,ln,lc,rfl,⟨hE,hN,_⟩,⟨hV,hQ⟩,⟨hR,hP,_⟩,hL,hO,_⟩:=h;obtain⟨d1,d2,d3,d4,d5⟩:=hd;have n1:en<=4194304:=by rw[<-hE.len];exact d1
 have n2:vn<=4194304:=by rw[<-hV.len];exact d2
 have n3:rn<=4194304:=by rw[<-hR.len];exact d3
 have n4:ln<=4194304:=by rw[<-hL.len];exact d4
 have hD:Hid (p.vs.length=vn):=hV.len;obtain⟨rows0,V0,ql,qc⟩:=hV.rowsA;obtain⟨e1,e2⟩:=hN.args hB;obtain⟨v1,v2⟩:=hQ.args hB;obtain⟨r1,r2⟩:=hP.args hB;obtain⟨l1,l2⟩:=hO.args hB;clear hV hN hQ hP hO d1 d2 d3 d4;obtain⟨W0,ht⟩:∃ W,W=(w.alloc (.cells #[.int .i64 p.size,.int .i64 p.next,.slice ea en ec,.slice va vn vc,.slice ra rn rc,.slice la ln lc] 28)).alloc (.cells #[.int .i64 0,.int .i64 0,.slice none 0 0,.slice none 0 0,.slice none 0 0,.slice none 0 0] 28):=⟨_,rfl⟩;have hG:Below w.heap.size w W0:=by rw[ht];go_grown
 have P:Blk W0 w.heap.size #[.int .i64 p.size,.int .i64 p.next,.slice ea en ec,.slice va vn vc,.slice ra rn rc,.slice la ln lc] 28:=by rw[ht];exact (Blk.new w _ _).alloc _
 have D:Blk W0 (w.heap.size+1) #[.int .i64 0,.int .i64 0,.slice none 0 0,.slice none 0 0,.slice none 0 0,.slice none 0 0] 28:=by rw[ht];exact Blk.new' _ _ _ _ (by simp)
 have hJ:w.heap.size+2<=W0.heap.size:=by rw[ht];simp
 go_enter func23,ntmps23
 go_wp2_with fail
 rw[<-ht];clear ht;refine (ni_ ea en ec p.ex W0 (hE.below hG) n1 e1 e2).mono ?_;rintro e w1 ⟨⟨ea',ec',rfl,RE⟩,hc⟩;replace P:=P.below hc;replace D:=D.below hc;replace RE:=RE.mono hJ;have hU:w.heap.size+2<=w1.heap.size:=Zl hJ hc.size;replace hc:=Aa hG hc;clear hG hE hJ;obtain⟨x0,x1,x2,x3,x4,x5⟩:=P.six';have f2:=P.frozen 2
 go_wp2_with fail
 have hg:w1.grownBy (w1.setCell ⟨w.heap.size,2,none⟩ (.slice ea' en ec')) (some w.heap.size):=af_ (Yh _ _) _ _;replace P:=P.set 2 (.slice ea' en ec');simp only[Yj,Yq,Yr] at P;replace D:=D.grown hg (by omega);replace RE:=RE.grown hg (fun ad e=>by have:=(RE.block ad e).1;omega);replace hc:=ao_ hc hg (Zd _);have hM:=Zl hU hg.size;generalize w1.setCell ⟨w.heap.size,2,none⟩ (.slice ea' en ec')=w2 at *;clear hg hU x0 x1 x2 x3 x4 x5 f2;refine (nj_ va vn vc rows0 w2 (V0.below hc) n2 v1 v2).mono ?_;rintro e w3 ⟨⟨va',vc',rfl,RV⟩,he⟩;replace P:=P.below he;replace D:=D.below he;replace RE:=RE.below he;replace RV:=RV.mono hM;have hX:w.heap.size+2<=w3.heap.size:=Zl hM he.size;replace he:=Aa hc he;clear hc hM;obtain⟨x0,x1,x2,x3,x4,x5⟩:=P.six';have f3:=P.frozen 3
 go_wp2_with fail
 have hg:w3.grownBy (w3.setCell ⟨w.heap.size,3,none⟩ (.slice va' vn vc')) (some w.heap.size):=af_ (Yh _ _) _ _;replace P:=P.set 3 (.slice va' vn vc');simp only[Yj,Yq,Yr] at P;replace D:=D.grown hg (by omega);replace RE:=RE.grown hg (fun ad e=>by have:=(RE.block ad e).1;omega);replace RV:=RV.grown hg (fun ad e=>by have:=(RV.block ad e).1;omega);replace he:=ao_ he hg (Zd _);have hY:=Zl hX hg.size;generalize w3.setCell ⟨w.heap.size,3,none⟩ (.slice va' vn vc')=w4 at *;clear hg hX x0 x1 x2 x3 x4 x5 f3
 go_loopw [3,15] (fun _ ix wr=>∃ (k:Nat) (rows:List VR),k<=vn∧ix=.int .i64 k∧Blk wr w.heap.size #[.int .i64 p.size,.int .i64 p.next,.slice ea' en ec',.slice va' vn vc',.slice ra rn rc,.slice la ln lc] 28∧Blk wr (w.heap.size+1) #[.int .i64 0,.int .i64 0,.slice none 0 0,.slice none 0 0,.slice none 0 0,.slice none 0 0] 28∧Ad Ex.cs 2 42 wr (w.heap.size+2) ea' en ec' p.ex∧Ad vrs 4 38 wr (w.heap.size+2) va' vn vc' rows∧Hid (∀ (i:Nat) (r:VR) (y:Vo),i<k->rows[i]?=some r->p.vs[i]?=some y->Bd (w.heap.size+2) wr r y)∧Hid (∀ (i:Nat) (r:VR),k<=i->rows[i]?=some r->rows0[i]?=some r)∧Hid (∀ (i j:Nat) (r s:VR) (x y:Addr),i<k->j<k->i≠j->rows[i]?=some r->rows[j]?=some s->r.pa=some x->s.pa=some y->x.block≠y.block)∧Hid (((rows.take k).flatMap (pbk wr)).Nodup)∧Below w.heap.size w wr∧w.heap.size+2<=wr.heap.size) (fun _ ix _=>vn-(intOf ix).toNat)
 case atStart=>exact⟨0,rows0,Zg _,rfl,P,D,RE,RV,fun i r y hi=>by omega,fun i r _ hr=>hr,fun i j r s x y hi=>by omega,List.nodup_nil,he,hY⟩
 case round=>
  clear P D RE RV he hY;obtain⟨k,rows,hk,rfl,P,D,RE,RV,ha,hb,hp,hI,hC,hz⟩:=hrel;have qe:rows.length=vn:=RV.sl.len;obtain⟨x0,x1,x2,x3,x4,x5⟩:=P.six';by_cases hlt:k<vn
  ·have qj:(k:Int)<vn:=by omega
   have qk:(0:Int)<=k:=by omega
   obtain⟨b,rfl,qh,qm,qi⟩:=RV.addr (by omega);have hu:k<rows.length:=by omega
   obtain⟨r,hr⟩:∃ r,rows[k]?=some r:=⟨rows[k],by simp[hu]⟩;have h9:k<p.vs.length:=by rw[hD.out];exact hlt
   obtain⟨y,hy⟩:∃ y,p.vs[k]?=some y:=⟨p.vs[k],by simp[h9]⟩;have hA:=(qc k y r hy (hb.out k r (Zd _) hr)).below hC;have y3:wr.cell? ⟨b,k*4+3,none⟩=some (.slice r.pa r.pn r.pc):=RV.cellAt hr rfl;obtain⟨q1,q2⟩:=d5 y (Zc hy);have qb:r.pn<=4194304:=by rw[<-hA.its.len];exact q1
   go_wp2_with fail
   have hW:Below wr.heap.size wr wr.drew:=(Yg _ _).drew;have h6:(fun u=>u.cell? ⟨w.heap.size,3,none⟩=some (.slice (some ⟨b,0,none⟩) vn vc')∧u.cell? ⟨b,k*4+3,none⟩=some (.slice r.pa r.pn r.pc)) wr.drew:=⟨x3,y3⟩;refine ar_ (S:=(fun u=>u.cell? ⟨w.heap.size,3,none⟩=some (.slice (some ⟨b,0,none⟩) vn vc')∧u.cell? ⟨b,k*4+3,none⟩=some (.slice r.pa r.pn r.pc))) 12 (by kernel_rfl) (by kernel_rfl) ?_;refine tk 0 ?_;refine tk 1 ?_;refine tk 2 ?_;refine tk 3 ?_;refine tk 4 ?_;refine tk 5 ?_;refine tk 6 ?_;refine tk 7 ?_;refine tk 8 ?_;refine AW (i:=9) (by kernel_rfl) rfl (fun K hK=>?_);go_simp;refine (er_ B hB r.pa r.pn r.pc y.its _ (hA.its.below hW) hA.hd qb q2).mono ?_;rintro e w5 ⟨⟨a5,c5,rows5,rfl,R5,T5,N5⟩,h3⟩;have hl:Below wr.heap.size wr w5:=Aa hW h3;replace P:=P.below hl;replace D:=D.below hl;replace RE:=RE.below hl;have hF:=RV.below hl;have h4:=Aa hC hl;have qg:=Zl hz hl.size;have y5:w5.cell? ⟨b,k*4+3,none⟩=some (.slice r.pa r.pn r.pc):=hF.cellAt hr rfl;obtain⟨cc,hm⟩:=hF.blkAt;have f5:=hm.frozen (k*4+3);have z3:w5.cell? ⟨w.heap.size,3,none⟩=some (.slice (some ⟨b,0,none⟩) vn vc'):=P.cell 3;dsimp only;refine hK.out _ _ ⟨z3,y5⟩ (fun hHeld=>?_);clear hK K
   try simp only[Act.put,lsA,lsB,lsC]
   refine tk 10 ?_;refine tk 11 ?_;refine wpAnyH_done (by kernel_rfl) ?_ _;refine BI rfl ?_;clear z3 x0 x1 x2 x3 x4 x5 y3 h6;go_wp2;have hg:w5.grownBy (w5.setCell ⟨b,k*4+3,none⟩ (.slice a5 r.pn c5)) (some b):=af_ (Yh _ _) _ _;have h0:=hF.set1 (x':=⟨r.id,r.nm,r.fx,a5,r.pn,c5⟩) (v:=.slice a5 r.pn c5) a2_ hr (j:=3) (by decide) rfl;have qo:wr.drew.heap.size=wr.heap.size:=rfl;have R6:=(R5.ty hg (aa_ hm) (by decide)).mono (show w.heap.size+2<=wr.drew.heap.size by omega);have T6:=(T5.ty hg (aa_ hm) (by decide)).mono (show w.heap.size+2<=wr.drew.heap.size by omega);have P6:=P.ty hg (aa_ hm) (by decide);have D6:=D.ty hg (aa_ hm) (by decide);have hZ:=RE.ty hg (aa_ hm) (by decide);have h5:=ao_ h4 hg (by omega);have hs:=Zl qg hg.size
   have h8:Hid (∀ (i:Nat) (r2:VR) (y2:Vo),i<k+1->(rows.set k ⟨r.id,r.nm,r.fx,a5,r.pn,c5⟩)[i]?=some r2->p.vs[i]?=some y2->Bd (w.heap.size+2) (w5.setCell ⟨b,k*4+3,none⟩ (.slice a5 r.pn c5)) r2 y2):=fun i r2 y2 hi h1 h2=>by
    by_cases ho:k=i
    ·subst ho;rw[Zx hu] at h1
     cases h1
     rw[hy] at h2
     cases h2
     exact⟨hA.id,hA.nm,hA.fx,rows5,R6,T6⟩
    ·rw[ZJ ho] at h1;exact ((ha.out i r2 y2 (by omega) h1 h2).below hl).ty hg (aa_ hm) (by decide) (by decide)
   have qd:Hid (∀ (i:Nat) (r2:VR),k+1<=i->(rows.set k ⟨r.id,r.nm,r.fx,a5,r.pn,c5⟩)[i]?=some r2->rows0[i]?=some r2):=fun i r2 hi h1=>by
    rw[ZJ (by omega)] at h1;exact hb.out i r2 (by omega) h1
   have hv:∀ (i:Nat) (r2:VR) (x:Addr),i<k->rows[i]?=some r2->r2.pa=some x->x.block<wr.heap.size:=fun i r2 x hi h1 hx=>by
    have hH:i<p.vs.length:=by rw[hD.out];omega
    obtain⟨rs,Rs,_⟩:=(ha.out i r2 p.vs[i] hi h1 (by simp[hH])).its;exact (Rs.block x hx).2
   have qf:Hid (∀ (i j:Nat) (r2 s:VR) (x y:Addr),i<k+1->j<k+1->i≠j->(rows.set k ⟨r.id,r.nm,r.fx,a5,r.pn,c5⟩)[i]?=some r2->(rows.set k ⟨r.id,r.nm,r.fx,a5,r.pn,c5⟩)[j]?=some s->r2.pa=some x->s.pa=some y->x.block≠y.block):=fun i j r2 s x y hi hj hw h1 h2 hx hy=>by
    by_cases ho:k=i
    ·subst ho;rw[Zx hu] at h1
     cases h1
     rw[ZJ hw] at h2;have q1:=(R5.block x hx).1;have q2:=hv j s y (by omega) h2 hy;omega
    ·rw[ZJ ho] at h1;by_cases hjk:k=j
     ·subst hjk;rw[Zx hu] at h2
      cases h2
      have q1:=(R5.block y hy).1;have q2:=hv i r2 x (by omega) h1 hx;omega
     ·rw[ZJ hjk] at h2;exact hp.out i j r2 s x y (by omega) (by omega) hw h1 h2 hx hy
   have qa:Hid (((rows.set k ⟨r.id,r.nm,r.fx,a5,r.pn,c5⟩).take (k+1)).flatMap (pbk (w5.setCell ⟨b,k*4+3,none⟩ (.slice a5 r.pn c5)))).Nodup:=by
    show List.Nodup _
    have e1:(rows.set k ⟨r.id,r.nm,r.fx,a5,r.pn,c5⟩).take (k+1)=rows.take k++[⟨r.id,r.nm,r.fx,a5,r.pn,c5⟩]:=by
     rw[ZK,Zx hu,List.take_set_of_le (Zd _)];rfl
    have hT:∀ q∈rows.take k,∃ y',Bd (w.heap.size+2) wr q y':=fun q hq=>by
     obtain⟨i,hi,rfl⟩:=YS hq;have ho:i<k:=by rw[Zz] at hi;omega
     have hH:i<p.vs.length:=by rw[hD.out];omega
     rw[List.getElem_take];exact⟨p.vs[i],ha.out i _ p.vs[i] ho (by simp[show i<rows.length by omega]) (by simp[hH])⟩
    have e2:(rows.take k).flatMap (pbk (w5.setCell ⟨b,k*4+3,none⟩ (.slice a5 r.pn c5)))=(rows.take k).flatMap (pbk wr):=bW_ (fun q hq=>by
     obtain⟨y',V⟩:=hT q hq;exact fP_ V (fun rs R=>((R.below hl).ty hg (aa_ hm) (by decide)).sl))
    have e3:pbk (w5.setCell ⟨b,k*4+3,none⟩ (.slice a5 r.pn c5)) ⟨r.id,r.nm,r.fx,a5,r.pn,c5⟩=bkI rows5:=cv_ (r:=⟨r.id,r.nm,r.fx,a5,r.pn,c5⟩) R6.sl;rw[e1,ZQ,e2,ZF,List.flatMap_nil,Yy,e3];refine mE_ (n:=wr.heap.size) hI.out (fun z hz=>?_) N5 (fun z hz=>?_)
    ·obtain⟨q,hq,hz⟩:=ZL.1 hz;obtain⟨y',V⟩:=hT q hq;exact (oc_ V z hz).2
    ·obtain⟨i,q,x,h1,h2,rfl⟩:=jn_ hz;have hi:i<y.its.length:=by rw[<-T5.len];exact (Zb.1 h1).1
     exact ((T5.at' i q y.its[i] h1 (by simp[hi])).ps.block x h2).1
   go_roundw
   case rel=>exact⟨k+1,_,by omega,by go_num,P6,D6,hZ,h0,h8,qd,qf,qa,h5,hs⟩
   case measure=>simp[intOf];omega
  ·obtain rfl:k=vn:=by omega
   have TV:Ax (w.heap.size+2) wr rows p.vs:=⟨by rw[qe,hD.out],fun i r y h1 h2=>ha.out i r y (by have:=(Zb.1 h1).1;omega) h1 h2⟩;have SV:Cw rows:=fun i j r s x y hw h1 h2 hx hy=>hp.out i j r s x y (by have:=(Zb.1 h1).1;omega) (by have:=(Zb.1 h2).1;omega) hw h1 h2 hx hy;have NV:NP wr rows:=by have:=hI.out;rw[Zk (by omega)] at this;exact this
   clear ha hb hp hI
   go_wp2_with fail
   refine (iL_ ra rn rc p.rf wr (hR.below hC) n3 r1 r2).mono ?_;rintro e w6 ⟨⟨ra',rc',rfl,RR⟩,hh⟩;replace P:=P.below hh;replace D:=D.below hh;replace RE:=RE.below hh;replace RV:=RV.below hh;replace NV:=dc_ TV NV hh;replace TV:=TV.below hh;replace RR:=RR.mono hz;have hs:=Zl hz hh.size;replace hC:=Aa hC hh;clear hh x0 x1 x2 x3 x4 x5 hz;obtain⟨x0,x1,x2,x3,x4,x5⟩:=P.six';have f4:=P.frozen 4
   go_wp2_with fail
   have hg:w6.grownBy (w6.setCell ⟨w.heap.size,4,none⟩ (.slice ra' rn rc')) (some w.heap.size):=af_ (Yh _ _) _ _;replace P:=P.set 4 (.slice ra' rn rc');simp only[Yj,Yq,Yr] at P;replace D:=D.grown hg (by omega);replace RE:=RE.grown hg (fun ad e=>by have:=(RE.block ad e).1;omega);replace RV:=RV.grown hg (fun ad e=>by have:=(RV.block ad e).1;omega);replace RR:=RR.grown hg (fun ad e=>by have:=(RR.block ad e).1;omega);replace NV:=lG_ TV NV hg (by omega);replace TV:=TV.low hg (by omega);replace hC:=ao_ hC hg (Zd _);replace hs:=Zl hs hg.size;generalize w6.setCell ⟨w.heap.size,4,none⟩ (.slice ra' rn rc')=w7 at *;clear hg x0 x1 x2 x3 x4 x5 f4;refine (iL_ la ln lc p.lt w7 (hL.below hC) n4 l1 l2).mono ?_;rintro e w8 ⟨⟨la',lc',rfl,RL⟩,hf⟩;have h7:∀ x y,ra'=some x->la'=some y->0<rc'->0<lc'->x.block≠y.block:=fun x y hx hy _ _=>by have q1:=(RR.block x hx).2;have q2:=(RL.block y hy).1;omega
   replace P:=P.below hf;replace D:=D.below hf;replace RE:=RE.below hf;replace RV:=RV.below hf;replace NV:=dc_ TV NV hf;replace TV:=TV.below hf;replace RR:=RR.below hf;replace RL:=RL.mono hs;have qn:=Zl hs hf.size;replace hC:=Aa hC hf;clear hf hs;obtain⟨x0,x1,x2,x3,x4,x5⟩:=P.six';have f5:=P.frozen 5;obtain⟨y0,y1,y2,y3,y4,y5⟩:=D.six';obtain⟨g0,g1,g2,g3,g4,g5⟩:=fz6 D;go_wp2;have hg:w8.grownBy (w8.setCell ⟨w.heap.size,5,none⟩ (.slice la' ln lc')) (some w.heap.size):=af_ (Yh _ _) _ _;replace D:=D.grown hg (by omega);replace RE:=RE.grown hg (fun ad e=>by have:=(RE.block ad e).1;omega);replace RV:=RV.grown hg (fun ad e=>by have:=(RV.block ad e).1;omega);replace RR:=RR.grown hg (fun ad e=>by have:=(RR.block ad e).1;omega);replace RL:=RL.grown hg (fun ad e=>by have:=(RL.block ad e).1;omega);replace NV:=lG_ TV NV hg (by omega);replace TV:=TV.low hg (by omega);replace hC:=ao_ hC hg (Zd _);generalize w8.setCell ⟨w.heap.size,5,none⟩ (.slice la' ln lc')=W9 at *;clear hg;obtain⟨W10,hS,E9,hn⟩:=AU D (.int .i64 p.size) (.int .i64 p.next) (.slice ea' en ec') (.slice va' k vc') (.slice ra' rn rc') (.slice la' ln lc');replace RE:=RE.grown hn (fun ad e=>by have:=(RE.block ad e).1;omega);replace RV:=RV.grown hn (fun ad e=>by have:=(RV.block ad e).1;omega);replace RR:=RR.grown hn (fun ad e=>by have:=(RR.block ad e).1;omega);replace RL:=RL.grown hn (fun ad e=>by have:=(RL.block ad e).1;omega);replace NV:=lG_ TV NV hn (by omega);replace TV:=TV.low hn (by omega);replace hC:=ao_ hC hn (by omega);rw[<-hS];clear hS;refine YW (results_cell_row rfl _ W10 (w.heap.size+1) _ _ _ _ rfl E9 underlying28 rfl (by kernel_rfl)) rfl ?_;exact⟨⟨_,rows,rfl,ea',en,ec',va',k,vc',ra',rn,rc',la',ln,lc',rfl,RE.mono (by omega),⟨RV.mono (by omega),TV.mono (by omega)⟩,RR.mono (by omega),RL.mono (by omega),h7,SV,NV⟩,hC⟩
theorem fv_ (w:World)(b:Nat)(c:Array Value):w.grownBy (w.setRow b c) (some b):=⟨rfl,rfl,rfl,by simp,fun k _ hk=>setRow_other w b k _ (fun e=>hk (by simp[e]))⟩
theorem cq_ {α:Type}{cs:α->List Value}{sz:Nat}(hsz:∀ x,(cs x).length=sz):∀ (l:List α) (p:Nat),(l.flatMap cs).take (p*sz)=(l.take p).flatMap cs
 |[],p=>by simp
 |x::r,0=>by simp
 |x::r,p+1=>by
  rw[ZF,ZP,ZF,Yd,Nat.one_mul,Nat.add_comm,<-hsz x,List.take_append,Zk (by omega)];congr 1;rw[Nat.add_sub_cancel_left,hsz x];exact cq_ hsz r p
theorem bM_ {α:Type}{cs:α->List Value}{sz:Nat}(hsz:∀ x,(cs x).length=sz){t:TypeId}{w:World}{B b n cap:Nat}{l:List α}{c:Array Value}(hb:Blk w b c t)(hB:B<=b)(hl:l.length=n)(hn:n<=cap)(hm:cap<=maxLen)(hc:c.size=cap*sz)(ht:c.toList.take (n*sz)=l.flatMap cs):Ad cs sz t w B (some ⟨b,0,none⟩) n cap l:=by
 refine⟨⟨hl,fun i x hx=>⟨b,0,rfl,fun j v hv=>?_⟩⟩,.inr ⟨b,rfl,hB,hn,hm,c,hb,hc,ht⟩⟩;have h:=i5_ hsz l hx hv;rw[<-ht] at h;rw[List.getElem?_take] at h;split at h
 ·rw[Zq,hb.cell,<-Array.getElem?_toList];exact h
 ·cases h
theorem fg_ {P:Program}(w:World)(dT sT ty elem:TypeId)(size g o dLen dCap:Nat)(a:Addr)(sLen sCap:Nat)(cur:List Value)(t:TypeId)(cs:List Value)
  (hu:P.underlying dT=some (.slice elem))(hs:(P.info? elem).map (·.size)=some size)
  (hg:Blk w g cur.toArray t)(hn:cs.length=Nat.min sLen dLen*size)
  (hsrc:∀ j v,cs[j]?=some v->w.cell? (a.add j)=some v)(hfit:o+cs.length<=cur.length)(h1:∀ v∈cs,v.oneCell'=true):
  (Builtin.copy_ #[dT,sT] ty #[.slice (some ⟨g,o,none⟩) dLen dCap,.slice (some a) sLen sCap]).run P w =
   .ok (goInt (Nat.min sLen dLen:Nat)) (w.setRow g (splice cur o cs).toArray):=by
 have hl:=run_loadCells_list (P:=P) w a cs hsrc;have ha:=run_storeCells_at P g o t cs 0 cur.toArray w hg (by simpa using hfit) h1
 cases hq:P.info? elem with
 |none=>simp[hq] at hs
 |some i=>
  have hi:i.size=size:=by simpa[hq] using hs
  simp[Builtin.copy_,YY hu,Builtin.lenOf,Builtin.firstCells,sizeOf,typeInfo,hq,hi,<-hn,hl,ha,splice]
theorem ky_ {P:Program}{o:Oper}{a:Act}{w:World}{K:Act->World->Prop}{Q:Exit->Act->World->Prop}(d s:Operand)(dT sT elem:TypeId)(size:Nat)
  (ho:o.op=.call {callee:=.builtin .copy,args:=#[d,s],argTypes:=#[dT,sT]})(hu:P.underlying dT=some (.slice elem))(hs:(P.info? elem).map (·.size)=some size)
  (g off dLen dCap:Nat)(ad:Addr)(sLen sCap:Nat)(hd:a.eval d=.slice (some ⟨g,off,none⟩) dLen dCap)(hx:a.eval s=.slice (some ad) sLen sCap)
  (cur:List Value)(t:TypeId)(hg:Blk w g cur.toArray t)(cs:List Value)(m:Nat)(hm:Nat.min sLen dLen=m)(hn:cs.length=m*size)
  (hsrc:∀ j v,cs[j]?=some v->w.cell? (ad.add j)=some v)(hfit:off+cs.length<=cur.length)(h1:∀ v∈cs,v.oneCell'=true)
  (h:∀ w',Blk w' g (splice cur off cs).toArray t->w.grownBy w' (some g)->w'.heap.size=w.heap.size->K (a.put o.dst (goInt m)) w'):o.wp P a w K Q:=by
 subst hm;have hr:=fg_ (P:=P) w dT sT o.type elem size g off dLen dCap ad sLen sCap cur t cs hu hs hg hn hsrc hfit h1;unfold Oper.wp execOp;simp only[ho,resolve,invoke,builtin,Sem.run_bind,Sem.run_pure,Result.andThen_ok,List.map_toArray,YD,List.map_nil,hd,hx,hr];exact h _ hg.row (fv_ _ _ _) (by simp)
theorem mJ_ {P:Program}(w:World)(dT sT elem:TypeId)(size g o dLen dCap:Nat)(a:Addr)(sLen sCap:Nat)(cur:List Value)(t:TypeId)(cs:List Value)(m:Nat)
  (hu:P.underlying dT=some (.slice elem))(hs:(P.info? elem).map (·.size)=some size)
  (hg:Blk w g cur.toArray t)(hm:Nat.min sLen dLen=m)(hn:cs.length=m*size)
  (hsrc:∀ j v,cs[j]?=some v->w.cell? (a.add j)=some v)(hfit:o+cs.length<=cur.length)(h1:∀ v∈cs,v.oneCell'=true):
  ∃ W2,(∀ ty,(Builtin.copy_ #[dT,sT] ty #[.slice (some ⟨g,o,none⟩) dLen dCap,.slice (some a) sLen sCap]).run P w=.ok (goInt m) W2)∧Blk W2 g (splice cur o cs).toArray t∧w.grownBy W2 (some g)∧W2.heap.size=w.heap.size:=by
 subst hm;exact⟨_,fun ty=>fg_ (P:=P) w dT sT ty elem size g o dLen dCap a sLen sCap cur t cs hu hs hg hn hsrc hfit h1,hg.row,fv_ _ _ _,by simp⟩
theorem fU_ {P:Program}(w:World){ops:Array Oper}{rest:List Oper}{o:Oper}{a:Act}{Q:Exit->Act->World->Prop}(hgd:o.guard=none)(d s:Operand)(t t':TypeId)
  (ho:o.op=.call {callee:=.builtin .copy,args:=#[d,s],argTypes:=#[t,t']})(v u:Value)(hd:a.eval d=v)(hs:a.eval s=u){v':Value}{w':World}
  (hr:(Builtin.copy_ #[t,t'] o.type #[v,u]).run P w=.ok v' w')(h:wpList P ops Q rest (a.put o.dst v') w'):wpList P ops Q (o::rest) a w:=by
 refine wpList_plain hgd fun _ hK=>?_;unfold Oper.wp execOp;simp only[ho,resolve,invoke,builtin,Sem.run_bind,Sem.run_pure,Result.andThen_ok,List.map_toArray,YD,List.map_nil,hd,hs,hr];exact hK _ _ h
theorem dE_ {α:Type}(L:List α)(o:Nat)(cs:List α)(h:o+cs.length<=L.length):(splice L o cs).length=L.length:=length_splice L o cs h
theorem es_ {α:Type}(L:List α)(o:Nat)(cs:List α)(h:o+cs.length<=L.length):(splice L o cs).take o=L.take o∧(splice L o cs).take (o+cs.length)=L.take o++cs∧(splice L o cs).drop (o+cs.length)=L.drop (o+cs.length):=by
 have hl:(L.take o).length=o:=by rw[Zz];omega
 unfold splice;refine⟨?_,?_,?_⟩
 ·rw[List.take_append_of_le_length (by omega),Zk (by omega)]
 ·rw[List.take_append,Zk (by omega),hl,Nat.add_sub_cancel_left,List.take_left]
 ·rw[List.drop_append,Ze (by omega),hl,Nat.add_sub_cancel_left,ZM,List.drop_left]
end
section
open Go Go.RowKit Go.BigFrame Tryz
variable{α:Type}{cs:α->List Value}{sz:Nat}
theorem kz_ (rows:List α)(x:α)(i:Nat):(rows.take i++[x]++rows.drop i).flatMap cs=(rows.take i).flatMap cs++cs x++(rows.drop i).flatMap cs:=by simp
theorem mK_ {rows:List α}{x:α}{i n:Nat}(hl:rows.length=n)(hi:i<=n):(rows.take i++[x]++rows.drop i).length=n+1:=by simp;omega
theorem qq_ (hsz:∀ y,(cs y).length=sz){L:List Value}{rows:List α}{x:α}{i n cap:Nat}(hl:rows.length=n)(hi:i<=n)(hc:L.length=cap*sz)(hcap:n+1<=cap)(ht:L.take (i*sz)=(rows.take i).flatMap cs):
  i*sz+(cs x).length<=L.length∧(splice L (i*sz) (cs x)).length=cap*sz∧(i+1)*sz+((rows.drop i).flatMap cs).length<=(splice L (i*sz) (cs x)).length∧((rows.drop i).flatMap cs).length=(n-i)*sz∧
  (splice (splice L (i*sz) (cs x)) ((i+1)*sz) ((rows.drop i).flatMap cs)).length=cap*sz∧(splice (splice L (i*sz) (cs x)) ((i+1)*sz) ((rows.drop i).flatMap cs)).take ((n+1)*sz)=(rows.take i++[x]++rows.drop i).flatMap cs:=by
 have h1:(n+1)*sz<=cap*sz:=ZS _ hcap;have h2:(i+1)*sz<=(n+1)*sz:=ZS _ (by omega);have h3:(i+1)*sz=i*sz+sz:=by rw[Yd,Nat.one_mul]
 have hX:((rows.drop i).flatMap cs).length=(n-i)*sz:=by rw[aY_ hsz,List.length_drop,hl]
 have h4:(i+1)*sz+(n-i)*sz=(n+1)*sz:=by rw[<-Yd];congr 1;omega
 have a1:i*sz+(cs x).length<=L.length:=by rw[hsz];omega
 have l1:=dE_ L (i*sz) (cs x) a1;have t1:=es_ L (i*sz) (cs x) a1;have a2:(i+1)*sz+((rows.drop i).flatMap cs).length<=(splice L (i*sz) (cs x)).length:=by rw[hX,l1];omega
 have l2:=dE_ _ _ _ a2;have t2:=es_ _ _ _ a2;refine⟨a1,l1.trans hc,a2,hX,l2.trans (l1.trans hc),?_⟩;rw[hX,h4] at t2;have t1':=t1.2.1;rw[show i*sz+(cs x).length=(i+1)*sz by rw[hsz];omega] at t1';rw[t2.2.1,t1',ht,kz_]
theorem qr_ (hsz:∀ y,(cs y).length=sz){L:List Value}{rows:List α}{x:α}{i n cap:Nat}(hl:rows.length=n)(hi:i<=n)(hc:L.length=cap*sz)(hcap:n+1<=cap)(ht:L.take (n*sz)=rows.flatMap cs):
  (i+1)*sz+((rows.drop i).flatMap cs).length<=L.length∧(splice L ((i+1)*sz) ((rows.drop i).flatMap cs)).length=cap*sz∧i*sz+(cs x).length<=(splice L ((i+1)*sz) ((rows.drop i).flatMap cs)).length∧((rows.drop i).flatMap cs).length=(n-i)*sz∧
  (splice (splice L ((i+1)*sz) ((rows.drop i).flatMap cs)) (i*sz) (cs x)).length=cap*sz∧(splice (splice L ((i+1)*sz) ((rows.drop i).flatMap cs)) (i*sz) (cs x)).take ((n+1)*sz)=(rows.take i++[x]++rows.drop i).flatMap cs:=by
 have h1:(n+1)*sz<=cap*sz:=ZS _ hcap;have h2:(i+1)*sz<=(n+1)*sz:=ZS _ (by omega);have h3:(i+1)*sz=i*sz+sz:=by rw[Yd,Nat.one_mul]
 have hX:((rows.drop i).flatMap cs).length=(n-i)*sz:=by rw[aY_ hsz,List.length_drop,hl]
 have h4:(i+1)*sz+(n-i)*sz=(n+1)*sz:=by rw[<-Yd];congr 1;omega
 have a1:(i+1)*sz+((rows.drop i).flatMap cs).length<=L.length:=by rw[hX];omega
 have l1:=dE_ _ _ _ a1;have t1:=es_ _ _ _ a1;have a2:i*sz+(cs x).length<=(splice L ((i+1)*sz) ((rows.drop i).flatMap cs)).length:=by rw[hsz,l1];omega
 have l2:=dE_ _ _ _ a2;refine⟨a1,l1.trans hc,a2,hX,l2.trans (l1.trans hc),?_⟩
 have e0:L.take (i*sz)=(rows.take i).flatMap cs:=by
  have:L.take (i*sz)=(L.take (n*sz)).take (i*sz):=by rw[List.take_take,ZZ (ZS _ hi)]
  rw[this,ht,cq_ hsz]
 generalize hXX:(rows.drop i).flatMap cs=X at *
 have e1:(splice L ((i+1)*sz) X).take (i*sz)=(rows.take i).flatMap cs:=by
  have:(splice L ((i+1)*sz) X).take (i*sz)=((splice L ((i+1)*sz) X).take ((i+1)*sz)).take (i*sz):=by rw[List.take_take,ZZ (by omega)]
  rw[this,t1.1,List.take_take,ZZ (by omega),e0]
 have e2:(splice L ((i+1)*sz) X).drop ((i+1)*sz)=X++L.drop ((i+1)*sz+X.length):=by
  unfold splice;rw[List.drop_append,Ze (by rw[Zz];omega),Zz,ZZ (by omega),Nat.sub_self];simp
 generalize splice L ((i+1)*sz) X=M at *;show (M.take (i*sz)++(cs x++M.drop (i*sz+(cs x).length))).take ((n+1)*sz)=_;rw[hsz,<-h3,e1,e2,kz_,hXX,<-ZC,<-ZC]
 have ha:((rows.take i).flatMap cs++cs x++X).length=(n+1)*sz:=by
  rw[ZE,ZE,aY_ hsz,Zz,hl,ZZ hi,hsz,hX];omega
 rw[<-ha,List.take_left]
theorem gl_ (hsz:∀ y,(cs y).length=sz):∀ (rows:List α) (i j:Nat),(rows.flatMap cs)[i*sz+j]?=((rows.drop i).flatMap cs)[j]?
 |[],i,j=>by simp
 |y::r,0,j=>by simp
 |y::r,i+1,j=>by
  rw[ZR,<-gl_ hsz r i j,ZF,Zv (by rw[hsz,Yd];omega),hsz,Yd];congr 1;omega
theorem op_ (_hsz:∀ y,(cs y).length=sz){t:TypeId}{w:World}{b:Nat}{x:α}(h:Blk w b (cs x).toArray t):AE cs sz w (some ⟨b,0,none⟩) 1 [x]:=by
 refine⟨rfl,fun i y hy=>⟨b,0,rfl,fun j v hv=>?_⟩⟩;have hi:i=0:=by have:=(Zb.1 hy).1;simp at this;exact this
 subst hi;simp at hy;subst hy;rw[h.cell];simpa using hv
theorem Ad.le {t:TypeId}{w:World}{B n cap:Nat}{a:Option Addr}{l:List α}(h:Ad cs sz t w B a n cap l):n<=cap:=by
 rcases h.own with⟨_,rfl,rfl⟩ | ⟨_,_,_,h1,_⟩
 ·exact Zd _
 ·exact h1
theorem Ad.empt {t:TypeId}{w:World}{B n cap:Nat}{l:List α}(h:Ad cs sz t w B none n cap l):n=0∧cap=0:=by
 rcases h.own with⟨_,h1,h2⟩ | ⟨_,h0,_⟩
 ·exact⟨h1,h2⟩
 ·cases h0
end
section
open Go Go.RowKit Go.BigFrame Tryz
theorem kA_:∃ i0,prog.info? 134=some i0∧i0.zero=some (.agg #[.string .empty,.slice none 0 0])∧i0.size=2∧i0.bytes=40:=by
 have h:=FE
 cases hh:prog.info? 134 with
 |none=>rw[hh] at h;cases h
 |some i0=>rw[hh] at h;simp at h;exact⟨i0,rfl,h.1,h.2.1,h.2.2⟩
theorem fV_:(prog.info? 134).map (·.size)=some 2:=by
 obtain⟨i0,h,_,h2,_⟩:=kA_;rw[h];simp[h2]
theorem hG_ (B:Nat)(a:Option Addr)(n cap vb:Nat)(rows:List IR)(x:IR)(w:World)(R:Ad irs 2 134 w B a n cap rows)(hv:Blk w vb (irs x).toArray 134)(hn:n<=4194304)(hBw:B<=w.heap.size):
  Calls prog 162 #[.slice a n cap,.int .i64 n,.slice (some ⟨vb,0,none⟩) 1 1] w fun e w'=>(∃ a' cap',e=.returned (.slice a' (n+1) cap')∧Ad irs 2 134 w' B a' (n+1) cap' (rows++[x])∧(∀ ad',a'=some ad'->(∃ ad,a=some ad∧ad.block=ad'.block)∨w.heap.size<=ad'.block))∧w.grownBy w' (Value.ownBlock (.slice a n cap)):=by
 have hS:=op_ aI_ hv;have hc:n<=cap:=R.le;have he:¬ ((1:Int)=0):=by omega
 cases a with
 |none=>
  obtain⟨rfl,rfl⟩:=R.empt;go_enter func162,ntmps162
  go_wp2_with (at_builtin;refine ag_ rfl (fun K hK=>b1_ _ _ rfl B none 0 0 rows rfl R vb 0 x rfl hS (by omega) hBw (fun a3 c3 w3 R3 hb ha=>hK _ _ ?_)))
  go_returns;exact⟨⟨a3,c3,rfl,R3,ha⟩,hb⟩
 |some ad=>
  obtain⟨b,rfl⟩:∃ b,ad=⟨b,0,none⟩:=by
   rcases R.own with⟨h0,_⟩ | ⟨b,h0,_⟩
   ·cases h0
   ·cases h0;exact⟨b,rfl⟩
  go_enter func162,ntmps162
  go_wp2_with (at_builtin;refine ag_ rfl (fun K hK=>b1_ _ _ rfl B (some ⟨b,0,none⟩) n cap rows rfl R vb 0 x rfl hS (by omega) hBw (fun a3 c3 w3 R3 hb ha=>hK _ _ ?_)))
  all_goals (go_returns;exact⟨⟨a3,c3,rfl,R3,(by simpa using ha)⟩,hb⟩)
theorem gV_ (B b n cap i vb:Nat)(rows:List IR)(x:IR)(w:World)(R:Ad irs 2 134 w B (some ⟨b,0,none⟩) n cap rows)(hv:Blk w vb (irs x).toArray 134)(hn:n<=4194304)(hBw:B<=w.heap.size)(hi:i<n)(hcap:cap=n):
  Calls prog 162 #[.slice (some ⟨b,0,none⟩) n cap,.int .i64 i,.slice (some ⟨vb,0,none⟩) 1 1] w fun e w'=>(∃ a' cap',e=.returned (.slice a' (n+1) cap')∧Ad irs 2 134 w' B a' (n+1) cap' (rows.take i++[x]++rows.drop i)∧(∀ ad',a'=some ad'->(∃ ad,(some ⟨b,0,none⟩:Option Addr)=some ad∧ad.block=ad'.block)∨w.heap.size<=ad'.block))∧w.grownBy w' (Value.ownBlock (.slice (some ⟨b,0,none⟩) n cap)):=by
 subst hcap;have ha:=R.sl.len;have hS:=op_ aI_ hv;have hL:=(R.block _ rfl).2;have hO:=hv.lt;obtain⟨i0,hA,hD,hE,ho⟩:=kA_;have hB:(cap:Int)+1-(i:Int)=((cap+1-i:Nat):Int):=by omega
 have hl:i+(cap+1-i)=cap+1:=by omega
 have hP:((.agg #[.string .empty,.slice none 0 0]):Value).cells.size=2:=rfl;have hg:((rows.take i).flatMap irs).length=i*2:=by rw[aY_ aI_,Zz,ha,ZZ (by omega)]
 have hc:(Builtin.firstCells i0.size i (.slice (some ⟨b,0,none⟩) i cap)).run prog w.drew=.ok ((rows.take i).flatMap irs).toArray w.drew:=by
  rw[hE];refine run_firstCells_some w.drew 2 i ⟨b,0,none⟩ i cap _ hg (fun j v hj=>?_)
  have:=AE.src aI_ R.sl j v (by
   rw[<-cq_ aI_,List.getElem?_take] at hj;split at hj
   ·exact hj
   ·cases hj)
  exact this
 have hm:∀ ty,(Builtin.append_ #[36,3] ty #[.slice (some ⟨b,0,none⟩) i cap,.int .i64 ((cap:Int)+1-(i:Int))]).run prog w =
   .ok (.slice (some ⟨w.heap.size,0,none⟩) (cap+1) (grownCap w (cap+1) cap 134)) (w.drew.alloc (.cells (((rows.take i).flatMap irs).toArray++Builtin.zeroCells ((.agg #[.string .empty,.slice none 0 0]):Value).cells (cap+1-i)++Builtin.zeroCells ((.agg #[.string .empty,.slice none 0 0]):Value).cells (grownCap w (cap+1) cap 134-(cap+1))) 134)):=fun ty=>by
  have h:=Lib.run_append_grow_zeros w 36 3 ty 134 i0 _ .i64 .i64 underlying36 underlying3 hA hD (some ⟨b,0,none⟩) i cap ((rows.take i).flatMap irs) hc (cap+1-i) (by omega) (by omega) (by omega) (by omega) (by rw[ho];omega) (by rw[ho,hl];exact growslice_fits (by omega) (by omega));rw[hl] at h;rw[hB];exact h
 have hr:cap+1<=grownCap w (cap+1) cap 134:=grownCap_ge w _ _ _;have hq:grownCap w (cap+1) cap 134<=maxLen:=grownCap_le_maxLen w (cap+1) cap 134 (by unfold maxLen;omega);generalize grownCap w (cap+1) cap 134=G at *
 obtain⟨ROW,ht,hu,hs⟩:∃ ROW:List Value,ROW.length=G*2∧ROW.take (i*2)=(rows.take i).flatMap irs∧(((rows.take i).flatMap irs).toArray++Builtin.zeroCells ((.agg #[.string .empty,.slice none 0 0]):Value).cells (cap+1-i)++Builtin.zeroCells ((.agg #[.string .empty,.slice none 0 0]):Value).cells (G-(cap+1)))=ROW.toArray:=by
  refine⟨((rows.take i).flatMap irs)++(Builtin.zeroCells ((.agg #[.string .empty,.slice none 0 0]):Value).cells (cap+1-i)).toList++(Builtin.zeroCells ((.agg #[.string .empty,.slice none 0 0]):Value).cells (G-(cap+1))).toList,?_,?_,?_⟩
  ·simp only[ZE,Array.length_toList,size_zeroCells,hP,hg];omega
  ·rw[ZC,<-hg,List.take_left]
  ·apply Array.toList_inj.1;simp
 rw[hs] at hm;have hC:=qq_ (cs:=irs) (x:=x) aI_ ha (Nat.le_of_lt hi) ht hr hu;replace hC:Hid _:=hC;have D1:Blk (w.drew.alloc (.cells ROW.toArray 134)) w.heap.size ROW.toArray 134:=Blk.new w.drew _ _;have hh:Below w.heap.size w (w.drew.alloc (.cells ROW.toArray 134)):=((Yg _ _).drew).alloc (Zd _) _;have hZ:¬ ((1:Int)=0):=by omega
 have h0:¬ ((i:Int)=(cap:Int)):=by omega
 have h1:(cap:Int)<(cap:Int)+1:=by omega
 have hQ:¬ (G=i):=by omega
 have hH:¬ (G=i+1):=by omega
 have hU:¬ (cap=i):=by omega
 have hX:IntKind.i64.wrap ((i:Int)+1)=(i:Int)+1:=by rw[Ys];omega
 have hR:(0:Int)<=(i:Int)+1:=by omega
 have hV:i<=cap:=by omega
 have hW:((i:Int)+1).toNat=i+1:=by omega
 have hT:(i:Int)<=(cap:Int):=by omega
 have hG:G<=9223372036854775807:=by unfold maxLen at hq;omega
 have hJ:=R.sl;have he:∀ v∈irs x,v.oneCell'=true:=fun v hv=>eP_ [x] v (by simpa using hv);have hf:∀ v∈(rows.drop i).flatMap irs,v.oneCell'=true:=eP_ _;have hw:Hid (B<=w.heap.size∧rows.length=cap):=⟨hBw,ha⟩;clear hB hl hc R hg hA hD hE ho hs hu ha ht;generalize hW1:w.drew.alloc (.cells ROW.toArray 134)=W1 at *;clear hW1;obtain⟨w2,hx,D2,hy,hM⟩:=mJ_ (P:=prog) W1 36 36 134 2 w.heap.size (i*2) (cap+1-i) (G-i) ⟨vb,0,none⟩ 1 1 ROW 134 (irs x) 1 underlying36 fV_ D1 (by simp only[Nat.min_def];split<;>omega) (by rw[aI_,Nat.one_mul]) (fun j v hj=>by rw[Addr.add_lit];exact Ab hh ((hv.cell _).trans (by simpa using hj))) hC.out.1 he;go_enter func162,ntmps162
 go_wp2_with (first
  |(at_builtin;refine Lib.wpList_append_run _ rfl _ _ _ _ rfl _ _ rfl rfl _ _ (hm _) ?_)
  |(at_builtin;refine fU_ _ rfl _ _ 36 36 rfl _ _ rfl rfl (hx _) ?_))
 clear hx;have hp:=ao_ hh hy (Zd _);have hY:=D2.lt;clear hm hh hy hM;have hI:(fun _=>True) w2.drew:=trivial;refine aC_ (S:=(fun _=>True)) 9 (by kernel_rfl) rfl ?_;refine tk 0 ?_;refine tk 1 ?_;refine tk 2 ?_;refine tk 3 ?_;refine tk 4 ?_;refine tk 5 ?_;refine tk 6 ?_;refine tk 7 ?_;refine AW (i:=8) (by kernel_rfl) rfl (fun K hK=>?_);refine aJ_ rfl (ky_ _ _ 36 36 134 2 rfl underlying36 fV_ w.heap.size ((i+1)*2) (cap-i) (G-(i+1)) ⟨b,i*2,none⟩ (cap-i) (cap-i) rfl rfl _ 134 D2.drew ((rows.drop i).flatMap irs) (cap-i) (by simp only[Nat.min_def];split<;>omega) hC.out.2.2.2.1 (fun j v hj=>?src) hC.out.2.2.1 hf (fun w3 D3 hz hN=>?_))
 case src=>
  have:=AE.src aI_ hJ (i*2+j) v (by rw[<-hj];exact gl_ aI_ rows i j)
  rw[Addr.add_lit] at this ⊢;rw[Zq] at this;exact Ab hp.drew this
 dsimp only;refine hK.out _ _ trivial (fun hHeld=>?_);clear hK K
 try simp only[Act.put,lsA,lsB,lsC]
 refine wpAnyH_done (by kernel_rfl) ?_ _;have hb:Below w.heap.size w w3:=ao_ (Aa hp (Yg _ _).drew) hz (Zd _);have R3:=bM_ (l:=rows.take i++[x]++rows.drop i) (n:=cap+1) (cap:=G) aI_ D3 hw.out.1 (mK_ hw.out.2 (Nat.le_of_lt hi)) hr hq (by rw[YI];exact hC.out.2.2.2.2.1) hC.out.2.2.2.2.2;clear D3 D2 hz hN hI hHeld;have hF:w.grownBy w3 (Value.ownBlock (.slice (some ⟨b,0,none⟩) cap cap)):=⟨hb.os,hb.tape,hb.output,hb.size,fun k hk _=>hb.block k hk⟩;go_wp2;go_returns;exact⟨⟨_,G,rfl,R3,fun ad e=>by cases e;exact .inr (Zd _)⟩,hF⟩
theorem gW_ (B b n cap i vb:Nat)(rows:List IR)(x:IR)(w:World)(R:Ad irs 2 134 w B (some ⟨b,0,none⟩) n cap rows)(hv:Blk w vb (irs x).toArray 134)(hvb:vb≠b)(hn:n<=4194304)(hi:i<n)(hcap:n+1<=cap):
  Calls prog 162 #[.slice (some ⟨b,0,none⟩) n cap,.int .i64 i,.slice (some ⟨vb,0,none⟩) 1 1] w fun e w'=>(∃ a' cap',e=.returned (.slice a' (n+1) cap')∧Ad irs 2 134 w' B a' (n+1) cap' (rows.take i++[x]++rows.drop i)∧(∀ ad',a'=some ad'->(∃ ad,(some ⟨b,0,none⟩:Option Addr)=some ad∧ad.block=ad'.block)∨w.heap.size<=ad'.block))∧w.grownBy w' (Value.ownBlock (.slice (some ⟨b,0,none⟩) n cap)):=by
 have he:=R.sl.len;rcases R.own with⟨h0,_⟩ | ⟨b',ha,ho,_,hm,c,hb,hc,ht⟩
 ·cases h0
 cases ha
 obtain⟨L,rfl⟩:∃ L:List Value,c=L.toArray:=⟨c.toList,by simp⟩;have hC:=qr_ (cs:=irs) (x:=x) (L:=L) aI_ he (Nat.le_of_lt hi) (by simpa using hc) hcap (by simpa using ht);replace hC:Hid _:=hC
 have hs:∀ lb cb,(callFunc 177 #[.slice (some ⟨vb,0,none⟩) 1 1,.slice (some ⟨b,(i+1)*2,none⟩) lb cb]).run prog w=.ok (.value (.bool false)) w:=fun lb cb=>by
  rw[YX func177 (by kernel_rfl) (by kernel_rfl) (by kernel_rfl) (e:=Extern.SlicesOverlaps.overlaps #[36,36] #[4]) (by kernel_rfl),
   Lib.run_overlaps_apart w 36 4 134 underlying36 2 Tryz.sizeOf134 ⟨vb,0,none⟩ ⟨b,(i+1)*2,none⟩ 1 1 lb cb hvb 134 134 (irs x).toArray.size L.toArray.size (by unfold Blk at hv;simp[World.shape?,hv]) (by unfold Blk at hb;simp[World.shape?,hb]) (by rw[hc];omega) (hv.frozen _) (hv.frozen _)]
  rfl
 have hL:¬ ((1:Int)=0):=by omega
 have hM:¬ ((i:Int)=(n:Int)):=by omega
 have hN:¬ (cap:Int)<(n:Int)+1:=by omega
 have hG:¬ (cap=i):=by omega
 have hy:¬ (cap=i+1):=by omega
 have hJ:IntKind.i64.wrap ((i:Int)+1)=(i:Int)+1:=by rw[Ys];omega
 have hD:(0:Int)<=(i:Int)+1:=by omega
 have hH:i<=n:=by omega
 have hI:((i:Int)+1).toNat=i+1:=by omega
 have hE:(i:Int)<=(n:Int):=by omega
 have hF:(i:Int)<=(n:Int)+1:=by omega
 have hl:cap<=9223372036854775807:=by unfold maxLen at hm;omega
 have hx:=R.sl;have hg:∀ v∈irs x,v.oneCell'=true:=fun v hv=>eP_ [x] v (by simpa using hv);have hh:∀ v∈(rows.drop i).flatMap irs,v.oneCell'=true:=eP_ _;have hk:Hid (B<=b∧rows.length=n∧n+1<=cap∧cap<=maxLen):=⟨ho,he,hcap,hm⟩;clear R he ht hc ho hm;go_enter func162,ntmps162
 go_wp2_with (simp only[hs])
 clear hs;have hw:(fun _=>True) w.drew:=trivial;refine aC_ (S:=(fun _=>True)) 9 (by kernel_rfl) rfl ?_;refine tk 0 ?_;refine tk 1 ?_;refine tk 2 ?_;refine tk 3 ?_;refine tk 4 ?_;refine tk 5 ?_;refine tk 6 ?_;refine tk 7 ?_;refine AW (i:=8) (by kernel_rfl) rfl (fun K hK=>?_);refine aJ_ rfl (ky_ _ _ 36 36 134 2 rfl underlying36 fV_ b ((i+1)*2) (n-i) (cap-(i+1)) ⟨b,i*2,none⟩ (n+1-i) (cap-i) rfl rfl L 134 hb.drew ((rows.drop i).flatMap irs) (n-i) (by simp only[Nat.min_def];split<;>omega) hC.out.2.2.2.1 (fun j v hj=>?src) hC.out.1 hh (fun w2 D2 hq hz=>?_))
 case src=>
  have:=AE.src aI_ hx (i*2+j) v (by rw[<-hj];exact gl_ aI_ rows i j)
  rw[Addr.add_lit] at this ⊢;rw[Zq] at this;exact this
 dsimp only;refine hK.out _ _ trivial (fun hHeld=>?_);clear hK K
 try simp only[Act.put,lsA,lsB,lsC]
 refine wpAnyH_done (by kernel_rfl) ?_ _;have hf:w.grownBy w2 (some b):=aV_ (au_ (Yh _ _) (Yg _ _).drew) hq;have hB:=hv.grown hf hvb;clear hq hz hw hHeld;obtain⟨w3,hp,D3,hr,hA⟩:=mJ_ (P:=prog) w2 36 36 134 2 b (i*2) (n+1-i) (cap-i) ⟨vb,0,none⟩ 1 1 _ 134 (irs x) 1 underlying36 fV_ D2 (by simp only[Nat.min_def];split<;>omega) (by rw[aI_,Nat.one_mul]) (fun j v hj=>by rw[Addr.add_lit];exact (hB.cell _).trans (by simpa using hj)) hC.out.2.2.1 hg
 go_wp2_with (at_builtin;refine fU_ _ rfl _ _ 36 36 rfl _ _ rfl rfl (hp _) ?_)
 clear hp;have hu:w.grownBy w3 (some b):=aV_ hf hr;have R3:=bM_ (l:=rows.take i++[x]++rows.drop i) (n:=n+1) (cap:=cap) aI_ D3 hk.out.1 (mK_ hk.out.2.1 (Nat.le_of_lt hi)) hk.out.2.2.1 hk.out.2.2.2 (by rw[YI];exact hC.out.2.2.2.2.1) hC.out.2.2.2.2.2;clear D3 D2 hr hA;go_returns;exact⟨⟨_,cap,rfl,R3,fun ad e=>by cases e;exact .inl ⟨_,rfl,rfl⟩⟩,hu⟩
theorem hH_ (B:Nat)(a:Option Addr)(n cap i vb:Nat)(rows:List IR)(x:IR)(w:World)(R:Ad irs 2 134 w B a n cap rows)(hv:Blk w vb (irs x).toArray 134)(hvb:∀ ad,a=some ad->vb≠ad.block)(hn:n<=4194304)(hBw:B<=w.heap.size)(hi:i<=n):
  Calls prog 162 #[.slice a n cap,.int .i64 i,.slice (some ⟨vb,0,none⟩) 1 1] w fun e w'=>(∃ a' cap',e=.returned (.slice a' (n+1) cap')∧Ad irs 2 134 w' B a' (n+1) cap' (rows.take i++[x]++rows.drop i)∧(∀ ad',a'=some ad'->(∃ ad,a=some ad∧ad.block=ad'.block)∨w.heap.size<=ad'.block))∧w.grownBy w' (Value.ownBlock (.slice a n cap)):=by
 by_cases hin:i=n
 ·subst hin;have hl:=R.sl.len
  have:=hG_ B a i cap vb rows x w R hv hn hBw
  rw[Zk (by omega),Ze (by omega),Yy];exact this
 ·rcases R.own with⟨_,h0,_⟩ | ⟨b,rfl,_,ha,_⟩
  ·omega
  ·by_cases hc:cap=n
   ·exact gV_ B b n cap i vb rows x w R hv hn hBw (by omega) hc
   ·exact gW_ B b n cap i vb rows x w R hv (hvb _ rfl) hn (by omega) (by omega)
theorem FrL.of_grown {bs:List Nat}{w w':World}{row:Option Nat}(h:w.grownBy w' row)(hr:∀ k,row=some k->k∈bs∨w.heap.size<=k):FrL bs w w':=
 ⟨h.os,h.tape,h.output,h.size,fun k hk hn=>h.block k hk (fun e=>(hr k e.symm).elim (fun h1=>hn h1) (fun h1=>absurd hk (by omega)))⟩
theorem FrL.of_below {bs:List Nat}{w w':World}(h:Below w.heap.size w w'):FrL bs w w':=⟨h.os,h.tape,h.output,h.size,fun k hk _=>h.block k hk⟩
theorem Blk.frl {bs:List Nat}{w w':World}{b:Nat}{c:Array Value}{t:TypeId}(h:Blk w b c t)(hf:FrL bs w w')(hb:b∉bs):Blk w' b c t:=(hf.block b h.lt hb).trans h
theorem AE.frl {α:Type}{cs:α->List Value}{sz:Nat}{w w':World}{a:Option Addr}{n:Nat}{l:List α}{bs:List Nat}(h:AE cs sz w a n l)(hf:FrL bs w w')(hb:∀ ad,a=some ad->ad.block∉bs)(hlt:∀ ad,a=some ad->ad.block<w.heap.size):AE cs sz w' a n l:=
 ⟨h.len,fun i x hx=>by
  obtain⟨b,o,ha,hc⟩:=h.cell i x hx;refine⟨b,o,ha,fun j v hv=>?_⟩;have h1:=hc j v hv;have h2:w'.heap[b]?=w.heap[b]?:=hf.block b (hlt _ ha) (hb _ ha);simp only[World.cell?] at h1 ⊢;rw[h2];exact h1⟩
theorem Ad.frl {α:Type}{cs:α->List Value}{sz:Nat}{t:TypeId}{w w':World}{B n cap:Nat}{a:Option Addr}{l:List α}{bs:List Nat}(h:Ad cs sz t w B a n cap l)(hf:FrL bs w w')(hb:∀ ad,a=some ad->ad.block∉bs):Ad cs sz t w' B a n cap l:=by
 refine⟨h.sl.frl hf hb (fun ad e=>(h.block ad e).2),?_⟩;rcases h.own with h0 | ⟨b,h1,h2,h3,h4,c,h5,h6⟩
 ·exact .inl h0
 ·exact .inr ⟨b,h1,h2,h3,h4,c,h5.frl hf (hb _ h1),h6⟩
def AT:Option Addr->List Nat
 |none=>[]
 |some x=>[x.block]
theorem aO_ {a:Option Addr}{k:Nat}:k∈AT a↔∃ x,a=some x∧x.block=k:=by
 cases a with
 |none=>simp[AT]
 |some x=>simp[AT,eq_comm]
theorem gm_ {a:Option Addr}{n cap k:Nat}(h:Value.ownBlock (.slice a n cap)=some k):k∈AT a:=by
 cases a with
 |none=>simp[Value.ownBlock] at h
 |some x=>simp[Value.ownBlock] at h;simp[AT,h]
end
end Go.Proofs.YtdmeabghpchckaaGreatDoor
