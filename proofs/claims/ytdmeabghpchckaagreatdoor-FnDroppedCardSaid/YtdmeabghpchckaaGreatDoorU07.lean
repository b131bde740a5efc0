/- The laws' comparisons of lists of items and volumes, where they are the same. -/
import Derived.Lib.SmallJoins
import Derived.Test.YtdmeabghpchckaaGreatDoorU01
import Derived.Test.YtdmeabghpchckaaGreatDoorU02
set_option maxHeartbeats 20000000
set_option maxRecDepth 100000
namespace Go.Proofs.YtdmeabghpchckaaGreatDoor
section
open Go.ChangeShapes Go.WideShapes Go.ChangeAt Go.RowKit Go.Deep Tryz
theorem c2:prog.cellsOf 2=1:=by kernel_rfl
end
section
open Go Go.RowKit Go.BigFrame Tryz
variable{B:Nat}{p:Po}{v:Value}{w:World}
def AF (B:Nat)(w:World)(v:Value)(p:Po):Prop:=
 ∃ ea en ec va vn vc ra rn rc la ln lc,v=.agg #[.int .i64 p.size,.int .i64 p.next,.slice ea en ec,.slice va vn vc,.slice ra rn rc,.slice la ln lc]∧
  (Bb w ea en p.ex∧Hd B ea en ec∧Sf B w ea)∧(Ba B w va vn p.vs∧Hd B va vn vc)∧(A4 w ra rn p.rf∧Hd B ra rn rc∧Sf B w ra)∧(A4 w la ln p.lt∧Hd B la ln lc∧Sf B w la)
structure IR where
 nm:ByteArray
 pa:Option Addr
 pn:Nat
 pc:Nat
end
section
open Go Go.RowKit Go.BigFrame Tryz
variable{c:Array Value}{y:It}{l:List Vo}{B b cap i n:Nat}{a:Option Addr}{t:TypeId}{w:World}
variable{rows:List IR}
variable{r:IR}
structure VR where
 id:Int
 nm:ByteArray
 fx:Bool
 pa:Option Addr
 pn:Nat
 pc:Nat
def irs (r:IR):List Value:=[.string r.nm,.slice r.pa r.pn r.pc]
def vrs (r:VR):List Value:=[.int .i64 r.id,.string r.nm,.bool r.fx,.slice r.pa r.pn r.pc]
structure Gz (B:Nat)(w:World)(r:IR)(y:It):Prop where
 nm:r.nm=y.nm
 ps:AM w r.pa r.pn y.ps
 hd:Hd B r.pa r.pn r.pc
 ge:∀ ad,r.pa=some ad->B<=ad.block
 lt:∀ ad,r.pa=some ad->ad.block<w.heap.size
 sf:Sf B w r.pa
structure Cv (B:Nat)(w:World)(rows:List IR)(l:List It):Prop where
 len:rows.length=l.length
 at':∀ (i:Nat) r y,rows[i]?=some r->l[i]?=some y->Gz B w r y
theorem Cv.its {l:List It}(R:Ad irs 2 t w B a n cap rows)(h:Cv B w rows l):Bf B w a n l:=by
 refine⟨by rw[<-h.len];exact R.sl.len,fun i y hy=>?_⟩;have hi:i<rows.length:=by rw[h.len];exact (Zb.1 hy).1
 have hr:rows[i]?=some rows[i]:=by simp[hi]
 obtain⟨b,o,ha,hc⟩:=R.sl.cell i _ hr;have hR:=h.at' i _ y hr hy
 have he:Sf B w a:=fun _ ad e=>by
  rcases R.own with⟨h0,_⟩ | ⟨b',h1,h2,_,_,c,h3,_⟩
  ·rw[h0] at e;cases e
  ·rw[h1] at e;cases e;exact⟨h2,c,t,h3⟩
 have hb:B<=b:=by
  rcases R.own with⟨h0,_⟩ | ⟨b',h1,h2,_⟩
  ·rw[h0] at ha;cases ha
  ·rw[h1] at ha;cases ha;exact h2
 refine⟨b,o,rows[i].pa,rows[i].pn,rows[i].pc,ha,?_,hc 1 _ rfl,hR.ps,hR.hd,hb,hR.ge,hR.sf,he⟩
 have:=hc 0 _ rfl
 rw[<-hR.nm];exact this
structure GA (B:Nat)(w:World)(r:VR)(y:Vo):Prop where
 id:r.id=y.id
 nm:r.nm=y.nm
 fx:r.fx=y.fx
 its:Bf B w r.pa r.pn y.its
 hd:Hd B r.pa r.pn r.pc
structure B6 (B:Nat)(w:World)(rows:List VR)(l:List Vo):Prop where
 len:rows.length=l.length
 at':∀ (i:Nat) r y,rows[i]?=some r->l[i]?=some y->GA B w r y
theorem B6.vs {rows:List VR}(R:Ad vrs 4 t w B a n cap rows)(h:B6 B w rows l):Ba B w a n l:=by
 refine⟨by rw[<-h.len];exact R.sl.len,fun i y hy=>?_⟩;have hi:i<rows.length:=by rw[h.len];exact (Zb.1 hy).1
 have hr:rows[i]?=some rows[i]:=by simp[hi]
 obtain⟨b,o,ha,hc⟩:=R.sl.cell i _ hr;have hR:=h.at' i _ y hr hy
 have he:Sf B w a:=fun _ ad e=>by
  rcases R.own with⟨h0,_⟩ | ⟨b',h1,h2,_,_,c,h3,_⟩
  ·rw[h0] at e;cases e
  ·rw[h1] at e;cases e;exact⟨h2,c,t,h3⟩
 have hb:B<=b:=by
  rcases R.own with⟨h0,_⟩ | ⟨b',h1,h2,_⟩
  ·rw[h0] at ha;cases ha
  ·rw[h1] at ha;cases ha;exact h2
 have c0:=hc 0 _ rfl;have c1:=hc 1 _ rfl;have c2:=hc 2 _ rfl;have c3:=hc 3 _ rfl;refine⟨b,o,rows[i].pa,rows[i].pn,rows[i].pc,ha,?_,?_,?_,c3,hR.its,hR.hd,hb,he⟩
 ·rw[<-hR.id];exact c0
 ·rw[<-hR.nm];exact c1
 ·rw[<-hR.fx];exact c2
end
section
open Go Go.RowKit Go.BigFrame Tryz
variable{α β:Type}{x:IR}{rs:List IR}{l:List Vo}{B cap i k n sz:Nat}{a:Option Addr}{p:Po}{t:TypeId}{r:VR}{v:Value}{y:Vo}{w:World}{cs:α->List Value}
structure BU (B:Nat)(w:World)(r:IR)(y:It):Prop where
 nm:r.nm=y.nm
 ps:Ad Pt.cs 3 146 w B r.pa r.pn r.pc y.ps
structure AC (B:Nat)(w:World)(rows:List IR)(l:List It):Prop where
 len:rows.length=l.length
 at':∀ (i:Nat) r y,rows[i]?=some r->l[i]?=some y->BU B w r y
structure Bd (B:Nat)(w:World)(r:VR)(y:Vo):Prop where
 id:r.id=y.id
 nm:r.nm=y.nm
 fx:r.fx=y.fx
 its:∃ rows,Ad irs 2 134 w B r.pa r.pn r.pc rows∧AC B w rows y.its
structure Ax (B:Nat)(w:World)(rows:List VR)(l:List Vo):Prop where
 len:rows.length=l.length
 at':∀ (i:Nat) r y,rows[i]?=some r->l[i]?=some y->Bd B w r y
theorem Ad.sf {l:List α}(h:Ad cs sz t w B a n cap l):Sf B w a:=fun _ ad e=>by
 rcases h.own with⟨h0,_⟩ | ⟨b',h1,h2,_,_,c,h3,_⟩
 ·rw[h0] at e;cases e
 ·rw[h1] at e;cases e;exact⟨h2,c,t,h3⟩
theorem Ad.hd {l:List α}(h:Ad cs sz t w B a n cap l):Hd B a n cap:=by
 rcases h.own with⟨rfl,rfl,rfl⟩ | ⟨b',rfl,h2,h3,h4,_⟩
 ·exact⟨Zd _,by omega,fun _=>⟨fun _=>rfl,fun ad e=>by cases e⟩⟩
 ·exact⟨h3,by unfold maxLen at h4;omega,fun _=>⟨(fun e=>by cases e),fun ad e=>by cases e;rfl⟩⟩
theorem AC.rows {rows:List IR}{l:List It}(h:AC B w rows l):Cv B w rows l:=⟨h.len,fun i r y h1 h2=>by
 have h':=h.at' i r y h1 h2;exact⟨h'.nm,h'.ps.sl,h'.ps.hd,fun ad e=>(h'.ps.block ad e).1,fun ad e=>(h'.ps.block ad e).2,h'.ps.sf⟩⟩
theorem Ax.rows {rows:List VR}(h:Ax B w rows l):B6 B w rows l:=⟨h.len,fun i r y h1 h2=>by
 obtain⟨e1,e2,e3,rs,R,T⟩:=h.at' i r y h1 h2;exact⟨e1,e2,e3,T.rows.its R,R.hd⟩⟩
def Al (B:Nat)(w:World)(v:Value)(p:Po):Prop:=
 ∃ ea en ec va vn vc ra rn rc la ln lc rows,v=.agg #[.int .i64 p.size,.int .i64 p.next,.slice ea en ec,.slice va vn vc,.slice ra rn rc,.slice la ln lc]∧
  Ad Ex.cs 2 42 w B ea en ec p.ex∧(Ad vrs 4 38 w B va vn vc rows∧Ax B w rows p.vs)∧Ad Ct.cs 4 46 w B ra rn rc p.rf∧Ad Ct.cs 4 46 w B la ln lc p.lt∧(∀ x y,ra=some x->la=some y->0<rc->0<lc->x.block≠y.block)
theorem Al.at' (h:Al B w v p):AF B w v p:=by
 obtain⟨ea,en,ec,va,vn,vc,ra,rn,rc,la,ln,lc,rows,hv,h1,⟨h2,h3⟩,h4,h5,h6⟩:=h;exact⟨ea,en,ec,va,vn,vc,ra,rn,rc,la,ln,lc,hv,⟨h1.sl,h1.hd,h1.sf⟩,⟨h3.rows.vs h2,h2.hd⟩,⟨h4.sl,h4.hd,h4.sf⟩,h5.sl,h5.hd,h5.sf⟩
theorem mB_ {R:α->β->Prop}{rows:List α}{l:List β}{r:α}{y:β}(h:∀ (i:Nat) r y,rows[i]?=some r->l[i]?=some y->R r y)(h':R r y):∀ (i:Nat) q z,(rows.set k r)[i]?=some q->(l.set k y)[i]?=some z->R q z:=by
 intro i q z h1 h2;by_cases hi:k=i
 ·subst hi;have e1:=(Zb.1 h1).1;have e2:=(Zb.1 h2).1;rw[List.length_set] at e1 e2;rw[Zx e1] at h1;rw[Zx e2] at h2
  cases h1;cases h2
  exact h'
 ·rw[ZJ hi] at h1 h2;exact h i q z h1 h2
theorem Ax.set {rows:List VR}(k:Nat)(h:Ax B w rows l)(h':Bd B w r y):Ax B w (rows.set k r) (l.set k y):=⟨by simp[h.len],mB_ h.at' h'⟩
end
section
open Go Go.RowKit Go.BigFrame Tryz
variable{α:Type}{l:List Vo}{B b i n:Nat}{a:Option Addr}{p:Po}{v:Value}{w w':World}{x:α}
theorem Ba.grown {r:Nat}(h:Ba B w a n l)(hg:w.grownBy w' (some r))(hr:r<B):Ba B w' a n l:=
 ⟨h.len,fun i x hx=>by
  obtain⟨b,o,pa,pn,pc,ha,c0,c1,c2,c3,hp,hh,hB,s2⟩:=h.cell i x hx;exact⟨b,o,pa,pn,pc,ha,hg.cell c0 (by simp;omega),hg.cell c1 (by simp;omega),hg.cell c2 (by simp;omega),hg.cell c3 (by simp;omega),hp.grown hg hr,hh,hB,s2.grown hg hr⟩⟩
theorem AF.below (h:AF B w v p)(hb:Below w.heap.size w w'):AF B w' v p:=by
 obtain⟨ea,en,ec,va,vn,vc,ra,rn,rc,la,ln,lc,hv,⟨h1,k1⟩,⟨h2,k2⟩,⟨h3,k3⟩,h4,k4⟩:=h;exact⟨ea,en,ec,va,vn,vc,ra,rn,rc,la,ln,lc,hv,⟨h1.below hb,k1.1,k1.2.below hb⟩,⟨h2.below hb,k2⟩,⟨h3.below hb,k3.1,k3.2.below hb⟩,h4.below hb,k4.1,k4.2.below hb⟩
theorem AF.mono {B':Nat}(h:AF B w v p)(hb:B'<=B):AF B' w v p:=by
 obtain⟨ea,en,ec,va,vn,vc,ra,rn,rc,la,ln,lc,hv,⟨h1,k1⟩,⟨h2,k2⟩,⟨h3,k3⟩,h4,k4⟩:=h;exact⟨ea,en,ec,va,vn,vc,ra,rn,rc,la,ln,lc,hv,⟨h1,k1.1.mono hb,k1.2.mono hb⟩,⟨h2.mono hb,k2.mono hb⟩,⟨h3,k3.1.mono hb,k3.2.mono hb⟩,h4,k4.1.mono hb,k4.2.mono hb⟩
end
section
open Go Go.RowKit Go.BigFrame Tryz
variable{α:Type}{c:Array Value}{y:It}{L:List Ct}{l:List Vo}{B M b cap i j k n sz:Nat}{a:Option Addr}{row:Option Nat}{t t':TypeId}{out v:Value}{w w':World}{x:α}{cs:α->List Value}
variable{rows:List IR}
variable{r:IR}
theorem Gz.below (h:Gz B w r y)(hb:Below w.heap.size w w'):Gz B w' r y:=
 ⟨h.nm,h.ps.below hb,h.hd,h.ge,fun ad e=>Zy (h.lt ad e) hb.size,h.sf.below hb⟩
theorem Cv.below {l:List It}(h:Cv B w rows l)(hb:Below w.heap.size w w'):Cv B w' rows l:=⟨h.len,fun i r y h1 h2=>(h.at' i r y h1 h2).below hb⟩
theorem GA.below {r:VR}{y:Vo}(h:GA B w r y)(hb:Below w.heap.size w w'):GA B w' r y:=⟨h.id,h.nm,h.fx,h.its.below hb,h.hd⟩
theorem B6.below {rows:List VR}(h:B6 B w rows l)(hb:Below w.heap.size w w'):B6 B w' rows l:=⟨h.len,fun i r y h1 h2=>(h.at' i r y h1 h2).below hb⟩
theorem kb_ {l:List α}(h:AE cs sz w a n l)(hg:w.grownBy w' row)(hr:∀ ad,a=some ad->some ad.block≠row):AE cs sz w' a n l:=by
 refine⟨h.len,fun i x hx=>?_⟩;obtain⟨b,o,ha,hc⟩:=h.cell i x hx;exact⟨b,o,ha,fun j v hv=>hg.cell (hc j v hv) (hr ⟨b,o,none⟩ ha)⟩
theorem kc_ {c':Array Value}(h:Blk w b c t)(h':Blk w b c' t'):t=t':=by
 unfold Blk at h h';rw[h] at h';injection h' with e;injection e
def By (w:World)(row:Option Nat)(t:TypeId):Prop:=∀ k,row=some k->∃ c,Blk w k c t
theorem Ad.off {l:List α}(h:Ad cs sz t w B a n cap l)(hg:w.grownBy w' row)(hr:∀ ad,a=some ad->some ad.block≠row):Ad cs sz t w' B a n cap l:=by
 refine⟨kb_ h.sl hg hr,?_⟩;rcases h.own with h0 | ⟨b,ha,hB,h1,h2,c,hc,q⟩
 ·exact .inl h0
 ·exact .inr ⟨b,ha,hB,h1,h2,c,(hg.block _ hc.lt (hr _ ha)).trans hc,q⟩
theorem Ad.ty {l:List α}(h:Ad cs sz t w B a n cap l)(hg:w.grownBy w' row)(hr:By w row t')(ht:t≠t'):Ad cs sz t w' B a n cap l:=by
 refine h.off hg (fun ad e hc=>?_);obtain⟨c',h'⟩:=hr _ hc.symm;rcases h.own with⟨h0,_⟩ | ⟨b,ha,_,_,_,c,hb,_⟩
 ·rw[h0] at e;cases e
 ·rw[ha] at e;cases e;exact ht (kc_ hb h')
theorem Blk.ty (h:Blk w b c t)(hg:w.grownBy w' row)(hr:By w row t')(ht:t≠t'):Blk w' b c t:=by
 refine (hg.block _ h.lt (fun e=>?_)).trans h;obtain⟨c',h'⟩:=hr _ e.symm;exact ht (kc_ h h')
structure Fnd (w:World)(B:Nat)(out:Value)(L:List Ct)(M:Nat):Prop where
 at':∃ a n cap,out=.slice a n cap∧n<=M∧Ad Ct.cs 4 46 w B a n cap L
 bd:∀ x∈L,-(1000*(M:Int))<=x.n∧x.n<=1000*(M:Int)
theorem Fnd.below (h:Fnd w B out L M)(hb:Below w.heap.size w w'):Fnd w' B out L M:=by
 obtain⟨⟨a,n,cap,e,hn,R⟩,ha⟩:=h;exact⟨⟨a,n,cap,e,hn,R.below hb⟩,ha⟩
theorem Fnd.mono {M':Nat}(h:Fnd w B out L M)(hM:M<=M'):Fnd w B out L M':=by
 obtain⟨⟨a,n,cap,e,hn,R⟩,ha⟩:=h;exact⟨⟨a,n,cap,e,by omega,R⟩,fun x hx=>by have:=ha x hx;omega⟩
end
section
open Go Go.RowKit Go.BigFrame Tryz
variable{α β:Type}{x:IR}{rs:List IR}{b:List Nat}{l:List Vo}{B B' i k n:Nat}{a:Option Addr}{row:Option Nat}{p:Po}{t':TypeId}{r:VR}{v:Value}{y:Vo}{w w':World}
theorem BU.below {r:IR}{y:It}(h:BU B w r y)(hb:Below w.heap.size w w'):BU B w' r y:=⟨h.nm,h.ps.below hb⟩
theorem AC.below {rows:List IR}{l:List It}(h:AC B w rows l)(hb:Below w.heap.size w w'):AC B w' rows l:=⟨h.len,fun i r y h1 h2=>(h.at' i r y h1 h2).below hb⟩
theorem Bd.below (h:Bd B w r y)(hb:Below w.heap.size w w'):Bd B w' r y:=by
 obtain⟨h1,h2,h3,rows,R,T⟩:=h;exact⟨h1,h2,h3,rows,R.below hb,T.below hb⟩
theorem Ax.below {rows:List VR}(h:Ax B w rows l)(hb:Below w.heap.size w w'):Ax B w' rows l:=⟨h.len,fun i r y h1 h2=>(h.at' i r y h1 h2).below hb⟩
theorem BU.mono {r:IR}{y:It}(h:BU B w r y)(hb:B'<=B):BU B' w r y:=⟨h.nm,h.ps.mono hb⟩
theorem AC.mono {rows:List IR}{l:List It}(h:AC B w rows l)(hb:B'<=B):AC B' w rows l:=⟨h.len,fun i r y h1 h2=>(h.at' i r y h1 h2).mono hb⟩
theorem Bd.mono (h:Bd B w r y)(hb:B'<=B):Bd B' w r y:=by
 obtain⟨h1,h2,h3,rows,R,T⟩:=h;exact⟨h1,h2,h3,rows,R.mono hb,T.mono hb⟩
theorem Ax.mono {rows:List VR}(h:Ax B w rows l)(hb:B'<=B):Ax B' w rows l:=⟨h.len,fun i r y h1 h2=>(h.at' i r y h1 h2).mono hb⟩
theorem AC.ty {rows:List IR}{l:List It}(h:AC B w rows l)(hg:w.grownBy w' row)(hr:By w row t')(ht:(146:TypeId)≠t'):AC B w' rows l:=⟨h.len,fun i r y h1 h2=>⟨(h.at' i r y h1 h2).nm,(h.at' i r y h1 h2).ps.ty hg hr ht⟩⟩
theorem Bd.ty (h:Bd B w r y)(hg:w.grownBy w' row)(hr:By w row t')(ht:(146:TypeId)≠t')(ht':(134:TypeId)≠t'):Bd B w' r y:=by
 obtain⟨h1,h2,h3,rows,R,T⟩:=h;exact⟨h1,h2,h3,rows,R.ty hg hr ht',T.ty hg hr ht⟩
theorem Ax.ty {rows:List VR}(h:Ax B w rows l)(hg:w.grownBy w' row)(hr:By w row t')(ht:(146:TypeId)≠t')(ht':(134:TypeId)≠t'):Ax B w' rows l:=⟨h.len,fun i r y h1 h2=>(h.at' i r y h1 h2).ty hg hr ht ht'⟩
theorem Al.below (h:Al B w v p)(hb:Below w.heap.size w w'):Al B w' v p:=by
 obtain⟨ea,en,ec,va,vn,vc,ra,rn,rc,la,ln,lc,rows,hv,h1,⟨h2,h3⟩,h4,h5,h6⟩:=h;exact⟨ea,en,ec,va,vn,vc,ra,rn,rc,la,ln,lc,rows,hv,h1.below hb,⟨h2.below hb,h3.below hb⟩,h4.below hb,h5.below hb,h6⟩
theorem Al.mono (h:Al B w v p)(hb:B'<=B):Al B' w v p:=by
 obtain⟨ea,en,ec,va,vn,vc,ra,rn,rc,la,ln,lc,rows,hv,h1,⟨h2,h3⟩,h4,h5,h6⟩:=h;exact⟨ea,en,ec,va,vn,vc,ra,rn,rc,la,ln,lc,rows,hv,h1.mono hb,⟨h2.mono hb,h3.mono hb⟩,h4.mono hb,h5.mono hb,h6⟩
def bkI (rs:List IR):List Nat:=rs.filterMap (fun r=>r.pa.map (·.block))
def pbk (w:World)(r:VR):List Nat:=(List.range r.pn).filterMap (fun j=>match r.pa with
 |none=>none
 |some a=>match w.cell? ⟨a.block,a.off+j*2+1,none⟩ with
  |some (.slice (some x) _ _)=>some x.block
  |_=>none)
theorem km_ {f:Nat->Option β}{g:α->Option β}:∀ (rs:List α) (k:Nat),(∀ (i:Nat) (x:α),rs[i]?=some x->f (k+i)=g x)->(List.range' k rs.length).filterMap f=rs.filterMap g
 |[],_,_=>rfl
 |x::r,k,h=>by
  rw[Zw,List.range'_succ,List.filterMap_cons,List.filterMap_cons];have h0:=h 0 x rfl;rw[Nat.add_zero] at h0;rw[h0,km_ (f:=f) (g:=g) r (k+1) (fun i y hy=>by have:=h (i+1) y (by simpa using hy);rw[<-this,show k+1+i=k+(i+1) by omega])]
theorem cv_ (h:AE irs 2 w r.pa r.pn rs):pbk w r=bkI rs:=by
 unfold pbk bkI;rw[List.range_eq_range',<-h.len];refine km_ rs 0 (fun i x hx=>?_);obtain⟨b,o,ha,hc⟩:=h.cell i x hx;have h1:=hc 1 (.slice x.pa x.pn x.pc) rfl;rw[ha,Zq];simp only;rw[h1]
 cases x.pa<;>rfl
def Dy (n:Nat)(a b:List Nat):Prop:=a.Nodup->(∀ x∈a,x<n)->b.Nodup∧∀ x∈b,x∈a∨n<=x
theorem Dy.mono {m:Nat}{a:List Nat}(h:Dy n a b)(hm:m<=n):Dy m a b:=fun h1 h2=>by
 obtain⟨h3,h4⟩:=h h1 (fun x hx=>by have:=h2 x hx;omega);exact⟨h3,fun x hx=>(h4 x hx).imp id (fun h=>by omega)⟩
theorem bW_ {f g:α->List Nat}:∀ {l:List α},(∀ x∈l,f x=g x)->l.flatMap f=l.flatMap g
 |[],_=>rfl
 |x::r,h=>by rw[ZF,ZF,h x (by simp),bW_ (fun y hy=>h y (by simp[hy]))]
def NP (w:World)(rows:List VR):Prop:=(rows.flatMap (pbk w)).Nodup
theorem fP_ (V:Bd B w r y)(hk:∀ rs,Ad irs 2 134 w B r.pa r.pn r.pc rs->AE irs 2 w' r.pa r.pn rs):pbk w' r=pbk w r:=by
 obtain⟨_,_,_,rs,R,_⟩:=V;rw[cv_ (hk rs R),cv_ R.sl]
theorem Ax.of_mem {rows:List VR}(T:Ax B w rows l)(h:r∈rows):∃ y,Bd B w r y:=by
 obtain⟨i,hi,rfl⟩:=YS h;have hl:i<l.length:=by rw[<-T.len];exact hi
 exact⟨l[i],T.at' i rows[i] l[i] (by simp[hi]) (by simp[hl])⟩
theorem g3_ {rows:List VR}(T:Ax B w rows l)(N:NP w rows)(hk:∀ r∈rows,∀ rs,Ad irs 2 134 w B r.pa r.pn r.pc rs->AE irs 2 w' r.pa r.pn rs):NP w' rows:=by
 unfold NP;rw[bW_ (g:=pbk w) (fun r hr=>by obtain⟨y,V⟩:=T.of_mem hr;exact fP_ V (hk r hr))];exact N
theorem dc_ {rows:List VR}(T:Ax B w rows l)(N:NP w rows)(hb:Below w.heap.size w w'):NP w' rows:=g3_ T N (fun _ _ _ R=>(R.below hb).sl)
end
section
open Go.ChangeShapes Go.WideShapes Go.ChangeAt Go.RowKit Go.Deep Tryz
theorem He:laidOutB prog=true:=by kernel_rfl
end
section
open Go Go.RowKit Go.BigFrame Tryz
variable{α:Type}{l:List Vo}{a:Option Addr}{p:Po}{v:Value}{x:α}
def DO (l:List Vo):Prop:=l.length<=6∧∀ v∈l,v.its.length<=5∧∀ x∈v.its,x.ps.length<=16∧∀ p∈x.ps,0<=p.a
def A0 (v:Vo)(l:List It):List Ct:=l.flatMap (fun x=>AS v.id x.nm x.ps)
end
section
open Go Go.RowKit
variable{next:Int}{e:List Ex}
theorem db_:∀ {l:List It} {q:Option It},igo e q l=true->∀ x∈l,(Aj x.ps e).isSome=true
 |[],_,_,x,hx=>by cases hx
 |y::r,q,h,x,hx=>by
  simp only[igo,Zf] at h;rcases Zn.1 hx with rfl | hx
  ·exact h.1.2
  ·exact db_ h.2 x hx
theorem b0_:∀ {l:List Vo} {last:Int},vgo next e last l=true->∀ v∈l,itemsB v.its e=true∧nameB v.nm=true∧last<v.id∧v.id<next
 |[],_,_,v,hv=>by cases hv
 |u::r,last,h,v,hv=>by
  simp only[vgo,Zf,ZU] at h;rcases Zn.1 hv with rfl | hv
  ·exact⟨h.1.2,h.1.1.2,h.1.1.1.1,h.1.1.1.2⟩
  ·have:=b0_ h.2 v hv
   exact⟨this.1,this.2.1,by omega,this.2.2.2⟩
theorem cT_ {p:Pt}(h:Ag p=true):0<=p.a:=by
 unfold Ag at h;split at h
 ·rename_i h0;simp at h0;omega
 ·simp at h;omega
theorem g2_ {l:List Vo}{last:Int}(h6:l.length<=6)(h:vgo next e last l=true):DO l:=by
 refine⟨h6,fun v hv=>?_⟩;obtain⟨hi,_⟩:=b0_ h v hv;simp only[itemsB,Zf,ZU] at hi;refine⟨hi.1,fun x hx=>?_⟩;have hc:=db_ hi.2 x hx
 have hp:Ac x.ps=true:=by
  unfold Aj at hc;split at hc
  ·rename_i hh;exact hh.1
  ·cases hc
 obtain⟨q1,q2,_⟩:=ae_ hp;exact⟨q1,fun p ha=>cT_ (q2 p ha)⟩
end
section
open Go Go.RowKit Go.BigFrame Tryz
variable{p:Po}
theorem bL_ (h:Ai p=true):p.vs.length<=6∧vgo p.next p.ex 0 p.vs=true∧p.next<=1000000000∧Ao p.size p.ex=true∧(p.vs.map (·.nm.toList)).Nodup:=by
 simp only[Ai,CJ,CF,Zf,ZU] at h;exact⟨h.1.1.1.2.1,h.1.1.1.2.2,h.1.1.1.1.2,h.1.1.1.1.1.1,h.1.1.2⟩
end
section
open Go Go.RowKit Go.BigFrame Tryz
variable{α:Type}{y:It}{l:List Vo}{B i j k:Nat}{a:Option Addr}{p:Po}{v:Value}{w:World}{x:α}
variable{r:IR}
theorem Cv.nil (B:Nat)(w:World):Cv B w [] []:=⟨rfl,fun i r y h=>by simp at h⟩
theorem B6.nil (B:Nat)(w:World):B6 B w [] []:=⟨rfl,fun i r y h=>by simp at h⟩
theorem gI_ {id:Int}{nm:ByteArray}{ps:List Pt}{p:Pt}(h:ps[j]?=some p):AS id nm (ps.take (j+1))=AS id nm (ps.take j)++(if p.a==0 then [] else [⟨⟨p.a,id,nm⟩,1⟩]):=by
 unfold AS;rw[bx_ h,YR,List.map_append]
 cases hp:(p.a==0)<;>simp[hp]
theorem fq_ {v:Vo}{l:List It}{x:It}(h:l[k]?=some x):A0 v (l.take (k+1))=A0 v (l.take k)++AS v.id x.nm x.ps:=by
 unfold A0;rw[bx_ h,ZQ];simp
end
section
open Go.RowKit Go.BigFrame Go.Lib Tryz
variable{e:Nat}
def Gx (e:Ending):Option ByteArray->Prop
 |none=>e=.returned (.tuple #[.string ⟨#[]⟩,.bool false])
 |some s=>e=.returned (.tuple #[.string s,.bool true])
theorem Hp:(prog.info? 5).map (fun i=>(i.zero,i.size,i.bytes))=some (some (.int .u8 0),1,1):=by kernel_rfl
end
section
open Go Go.RowKit Go.BigFrame Tryz
def B3 (l:List It)(k:Nat):Option It:=if k=0 then none else l[k-1]?
theorem hB_ (l:List It)(k:Nat):B3 l (k+1)=l[k]?:=by simp[B3]
end
section
open Go Go.RowKit Go.BigFrame Tryz
variable{B i n:Nat}{a:Option Addr}{p:Po}{r:VR}{v:Value}{y:Vo}{w:World}
theorem pn_ (p q:Ow)(w:World):(Op.equalIn 9999 44 (.agg #[.int .i64 p.a,.int .i64 p.v,.string p.f]) (.agg #[.int .i64 q.a,.int .i64 q.v,.string q.f])).run prog w=.ok (Bx p q) w:=by
 have u2:=underlying2;have u9:=underlying9;have a2:=Tryz.isAgg2;have a9:=Tryz.isAgg9;have z2:=Tryz.sizeOf2;have z9:=Tryz.sizeOf9;have hS:prog.underlying 44=some (.struct (prog.fieldsOf 44)):=by kernel_rfl
 have hp:prog.stoodInHeld 44=false:=by kernel_rfl
 rw[show (9999:Nat)=9998+1 from rfl,run_equalIn_agg w 9998 44 _ _ hS hp];simp only[Program.fieldsOf,underlying44];clear hS hp;go_simp;unfold Bx;by_cases h1:p.a=q.a<;>by_cases h2:p.v=q.v<;>by_cases h3:p.f.toList=q.f.toList<;>simp[h1,h2,h3]
theorem Hq (p q:Ct)(w:World):(binOp .neq 46 (.agg #[.int .i64 p.o.a,.int .i64 p.o.v,.string p.o.f,.int .i64 p.n]) (.agg #[.int .i64 q.o.a,.int .i64 q.o.v,.string q.o.f,.int .i64 q.n])).run prog w=.ok (.bool (!FD p q)) w:=by
 have he:=pn_ p.o q.o;have u2:=underlying2;have a2:=Tryz.isAgg2;have z2:=Tryz.sizeOf2;have hz:=Tryz.sizeOf44;have ha:=Tryz.isAgg44;have hS:prog.underlying 46=some (.struct (prog.fieldsOf 46)):=by kernel_rfl
 have hp:prog.stoodInHeld 46=false:=by kernel_rfl
 rw[run_neq_struct,show (10000:Nat)=9999+1 from rfl,run_equalIn_agg w 9999 46 _ _ hS hp];simp only[Program.fieldsOf,underlying46];clear hS hp;unfold FD
 cases hb:Bx p.o q.o
 all_goals rw[hb] at he
 ·go_simp
 ·by_cases h1:p.n=q.n
  ·go_simp
  ·go_simp
def AB (p:Po):Prop:=p.ex.length<=4194304∧BP p.ex∧p.vs.length<=4194304∧DB p.vs∧p.rf.length<=4194304∧Bw p.rf∧p.lt.length<=4194304∧Bw p.lt
theorem AC.nil (B:Nat)(w:World):AC B w [] []:=⟨rfl,fun i r y h=>by simp at h⟩
theorem Ax.nil (B:Nat)(w:World):Ax B w [] []:=⟨rfl,fun i r y h=>by simp at h⟩
end
section
open Go Go.RowKit
variable{next size:Int}{e:List Ex}
theorem kh_ {size':Int}(h:size<=size'):∀ {l:List Ex} {next:Int},xgo size next l=true->xgo size' next l=true
 |[],_,_=>rfl
 |x::r,next,hx=>by
  simp only[xgo,Zf,ZU] at hx ⊢;exact⟨⟨⟨hx.1.1.1,hx.1.1.2⟩,by omega⟩,kh_ h hx.2⟩
theorem iI_ (h:Ao size e=true):Ao 400 e=true:=by
 simp only[Ao,Zf,ZU] at h ⊢;exact⟨⟨⟨by omega,by omega⟩,h.1.2⟩,kh_ h.1.1.2 h.2⟩
end
section
open Go Go.RowKit Go.BigFrame Tryz
variable{α:Type}{c:Array Value}{y:It}{l:List Vo}{B b cap i j k n sz:Nat}{a:Option Addr}{p:Po}{t:TypeId}{v:Value}{w:World}{x x':α}{cs:α->List Value}
variable{rows:List IR}
variable{r:IR}
theorem aI_ (r:IR):(irs r).length=2:=rfl
theorem a2_ (r:VR):(vrs r).length=4:=rfl
theorem eP_ (l:List IR):∀ u∈l.flatMap irs,u.oneCell'=true:=by
 intro u hu;obtain⟨p,_,hp⟩:=ZL.1 hu;simp[irs] at hp;rcases hp with rfl | rfl<;>rfl
theorem pm_ (l:List VR):∀ u∈l.flatMap vrs,u.oneCell'=true:=by
 intro u hu;obtain⟨p,_,hp⟩:=ZL.1 hu;simp[vrs] at hp;rcases hp with rfl | rfl | rfl | rfl<;>rfl
theorem Cv.snoc {l:List It}(h:Cv B w rows l)(h':Gz B w r y):Cv B w (rows++[r]) (l++[y]):=by
 refine⟨by simp[h.len],fun i q z h1 h2=>?_⟩;by_cases hi:i<rows.length
 ·rw[ZD hi] at h1;rw[ZD (by rw[<-h.len];exact hi)] at h2;exact h.at' i q z h1 h2
 ·rw[Zv (by omega)] at h1;rw[Zv (by rw[<-h.len];omega)] at h2;have h0:i-rows.length=0:=by have:=(Zb.1 h1).1;simp at this;omega
  rw[h0] at h1;rw[<-h.len,h0] at h2;simp at h1 h2;subst h1 h2;exact h'
theorem B6.snoc {rows:List VR}{r:VR}{y:Vo}(h:B6 B w rows l)(h':GA B w r y):B6 B w (rows++[r]) (l++[y]):=by
 refine⟨by simp[h.len],fun i q z h1 h2=>?_⟩;by_cases hi:i<rows.length
 ·rw[ZD hi] at h1;rw[ZD (by rw[<-h.len];exact hi)] at h2;exact h.at' i q z h1 h2
 ·rw[Zv (by omega)] at h1;rw[Zv (by rw[<-h.len];omega)] at h2;have h0:i-rows.length=0:=by have:=(Zb.1 h1).1;simp at this;omega
  rw[h0] at h1;rw[<-h.len,h0] at h2;simp at h1 h2;subst h1 h2;exact h'
theorem hA_:By w none t:=fun k e=>by cases e
theorem aa_ (h:Blk w b c t):By w (some b) t:=fun k e=>by cases e;exact⟨c,h⟩
theorem Ad.rowTy {l:List α}(h:Ad cs sz t w B a n cap l){m:Nat}:By w (Value.ownBlock (.slice a m k)) t:=by
 rcases h.own with⟨rfl,_⟩ | ⟨b,rfl,_,_,_,c,hc,_⟩
 ·intro k e;simp[Value.ownBlock] at e
 ·intro k e;simp[Value.ownBlock] at e;subst e;exact⟨c,hc⟩
theorem kd_ (hsz:∀ x,(cs x).length=sz)(hj:j<sz)(hx':cs x'=(cs x).set j v):∀ {l:List α} {i:Nat},l[i]?=some x->(l.set i x').flatMap cs=(l.flatMap cs).set (i*sz+j) v
 |[],i,h=>by simp at h
 |y::r,0,h=>by
  obtain rfl:y=x:=by simpa using h
  rw[Yq,ZF,ZF,hx',Nat.zero_mul,Zq,List.set_append_left _ _ (by rw[hsz];exact hj)]
 |y::r,i+1,h=>by
  rw[Yr,ZF,ZF,kd_ hsz hj hx' (by simpa using h),List.set_append_right _ _ (by rw[hsz,Yd];omega),hsz,show (i+1)*sz+j-sz=i*sz+j by rw[Yd];omega]
theorem Ad.set1 (hsz:∀ x,(cs x).length=sz){l:List α}(h:Ad cs sz t w B (some ⟨b,0,none⟩) n cap l)(hi:l[i]?=some x)(hj:j<sz)(hx':cs x'=(cs x).set j v):
  Ad cs sz t (w.setCell ⟨b,i*sz+j,none⟩ v) B (some ⟨b,0,none⟩) n cap (l.set i x'):=by
 have hk:=(Zb.1 hi).1;have hg:=h.sl.len;rcases h.own with⟨h0,_⟩ | ⟨b',ha,hB,hh,hf,c,hc,hs,ht⟩
 ·cases h0
 ·cases ha
  have hb:(l.set i x').length=n:=by rw[List.length_set];exact hg
  have he:(w.setCell ⟨b,i*sz+j,none⟩ v).ownsRow B t sz (.slice (some ⟨b,0,none⟩) n cap) n ((l.set i x').flatMap cs):=by
   refine⟨by rw[aY_ hsz,hb],.inr ⟨b,cap,_,rfl,hB,hc.set (i*sz+j) v,hh,hf,by simp[hs],?_⟩⟩;rw[Array.toList_setIfInBounds,List.take_set,ht,kd_ hsz hj hx' hi]
  obtain⟨a',cap',e,R⟩:=bz_ hsz hb he
  cases e
  exact R
def Ep (l:List Vo):Prop:=l.length<=7∧∀ v∈l,v.its.length<=6∧∀ x∈v.its,x.ps.length<=1000∧∀ p∈x.ps,0<=p.a
theorem DO.wide (h:DO l):Ep l:=⟨by have:=h.1;omega,fun v hv=>⟨by have:=(h.2 v hv).1;omega,fun x hx=>⟨by have:=((h.2 v hv).2 x hx).1;omega,((h.2 v hv).2 x hx).2⟩⟩⟩
end
section
open Go Go.RowKit Go.BigFrame Tryz
variable{α β:Type}{l:List Vo}{B i:Nat}{row:Option Nat}{t:TypeId}{r:VR}{y:Vo}{w w':World}
theorem kl_ {R:α->β->Prop}{rows:List α}{l:List β}{r:α}{y:β}(hl:rows.length=l.length)(h:∀ (i:Nat) r y,rows[i]?=some r->l[i]?=some y->R r y)(h':R r y):∀ (i:Nat) q z,(rows++[r])[i]?=some q->(l++[y])[i]?=some z->R q z:=by
 intro i q z h1 h2;by_cases hi:i<rows.length
 ·rw[ZD hi] at h1;rw[ZD (by rw[<-hl];exact hi)] at h2;exact h i q z h1 h2
 ·rw[Zv (by omega)] at h1;rw[Zv (by rw[<-hl];omega)] at h2;have h0:i-rows.length=0:=by have:=(Zb.1 h1).1;simp at this;omega
  rw[h0] at h1;rw[<-hl,h0] at h2;simp at h1 h2;subst h1 h2;exact h'
theorem AC.snoc {rows:List IR}{l:List It}{r:IR}{y:It}(h:AC B w rows l)(h':BU B w r y):AC B w (rows++[r]) (l++[y]):=⟨by simp[h.len],kl_ h.len h.at' h'⟩
theorem Ax.snoc {rows:List VR}(h:Ax B w rows l)(h':Bd B w r y):Ax B w (rows++[r]) (l++[y]):=⟨by simp[h.len],kl_ h.len h.at' h'⟩
theorem kp_ {rows:List VR}(T:Ax B w rows l)(N:NP w rows)(hg:w.grownBy w' row)(hr:By w row t)(ht:(134:TypeId)≠t):NP w' rows:=g3_ T N (fun _ _ _ R=>(R.ty hg hr ht).sl)
end
section
open Go.RowKit Go.BigFrame Go.Lib Tryz
variable{xs:List Value}{B e n:Nat}{v:Value}{w:World}
theorem d4_ (x y:ByteArray):strCells x++strCells y=strCells (x++y):=by
 simp[strCells]
theorem iF_ (h:w.ownsRow B e 1 v n xs):∀ k,v.ownBlock=some k->B<=k:=by
 rcases h.2 with⟨rfl,_⟩ | ⟨g,cap,cur,rfl,hB,_⟩
 ·intro k hk;cases hk
 ·intro k hk;simp[Value.ownBlock] at hk;omega
theorem iG_ {w':World}(h:w.ownsRow B e 1 v n xs)(hb:Below w.heap.size w w'):w'.ownsRow B e 1 v n xs:=by
 refine⟨h.1,?_⟩;rcases h.2 with h0 | ⟨g,cap,cur,h1,h2,h3,h4⟩
 ·exact .inl h0
 ·exact .inr ⟨g,cap,cur,h1,h2,by rw[hb.block g (ZG.1 h3).1];exact h3,h4⟩
theorem iH_ (h:w.ownsRow B e 1 v n xs):∃ a cap,v=.slice a n cap:=by
 rcases h.2 with⟨rfl,rfl⟩ | ⟨g,cap,cur,rfl,_⟩
 ·exact⟨none,0,rfl⟩
 ·exact⟨_,_,rfl⟩
theorem fO_ (a:Option Addr)(n cap:Nat)(l:List Pt)(a':Option Addr)(n' cap':Nat)(e:List Ex)(w:World)(h:AM w a n l)(h':Bb w a' n' e)(hstr:BP e)(hn:n<=4194304)(hn':n'<=4194304):
  Calls prog 77 #[.slice a n cap,.slice a' n' cap'] w fun x w'=>Gx x (Aj l e)∧Below w.heap.size w w':=by
 have hr:Hid (l.length=n):=h.len
 cases hl:Ac l
 ·have hf:Aj l e=none:=by simp[Aj,hl]
  rw[hf];go_enter func77,ntmps77
  go_wp2_with fail
  refine (as_ a n cap l _ h hn).mono ?_;rintro x w1 ⟨rfl,hh⟩;rw[hl];go_wp2;go_returns;exact⟨rfl,hh⟩
 ·cases hg:Ao 400 e
  ·have hf:Aj l e=none:=by simp[Aj,hg]
   rw[hf];go_enter func77,ntmps77
   go_wp2_with fail
   refine (as_ a n cap l _ h hn).mono ?_;rintro x w1 ⟨rfl,hh⟩;rw[hl]
   go_wp2_with fail
   refine (a8_ 400 a' n' cap' e _ (h'.below hh) hstr hn').mono ?_;rintro x w2 ⟨rfl,ho⟩;rw[hg];have hj:=Aa hh ho;go_wp2;go_returns;exact⟨rfl,hj⟩
  ·have hf:Hid (Aj l e=cgo e ⟨#[]⟩ (l.drop 0)):=by show _=_;simp[Aj,hl,hg]
   obtain⟨hx,hw⟩:=gd_ hl;have hH:n<=16:=by rw[<-hr.out];exact hx
   obtain⟨i0,hi,hz,hA,hC⟩:=info_parts Hp;generalize Aj l e=R at *;go_enter func77,ntmps77
   go_wp2_with fail
   refine (as_ a n cap l _ h hn).mono ?_;rintro x w1 ⟨rfl,hh⟩;rw[hl]
   go_wp2_with fail
   refine (a8_ 400 a' n' cap' e _ (h'.below hh) hstr hn').mono ?_;rintro x w2 ⟨rfl,ho⟩;rw[hg];replace ho:=Aa hh ho
   go_wp2_with fail
   go_loopw [6,20] (fun out ix wr=>∃ (k m:Nat) (s:ByteArray) (a2:Option Addr) (cap2:Nat),k<=n∧ix=.int .i64 k∧m<=100*k∧out=.slice a2 m cap2∧wr.ownsRow w.heap.size 5 1 (.slice a2 m cap2) m (strCells s)∧Hid (R=cgo e s (l.drop k))∧Below w.heap.size w wr) (fun _ ix _=>n-(RowKit.intOf ix).toNat)
   case atStart=>exact⟨0,0,⟨#[]⟩,none,0,Zg _,rfl,Zg _,rfl,World.ownsRow_nil _ _ _ _,hf,ho⟩
   case round=>
    obtain⟨k,m,s,a2,cap2,hk,rfl,hm,rfl,hc,hI,hB⟩:=hrel;have hP:=hB.size;by_cases hlt:k<n
    ·obtain⟨b,o,p,rfl,hp,c0,c1,c2⟩:=bi_ (h.below hB) hlt;have hd:Hid (l.drop k=p::l.drop (k+1)):=al_ hp;obtain⟨hN,hO,hK⟩:=hw p (Zc hp);obtain⟨pa,pf,pn⟩:=p;dsimp only at *;obtain⟨pk,rfl⟩:∃ pk:Nat,pn=pk:=⟨pn.toNat,by omega⟩
     cases ha:(pa==0)
     ·have hJ:pa≠0:=by simpa using ha
      obtain⟨f0,f20⟩:=hK hJ;obtain⟨fk,rfl⟩:∃ fk:Nat,pf=fk:=⟨pf.toNat,by omega⟩;have hv:Hid (R=match pieceO e ⟨pa,fk,pk⟩ with | none=>none | some d=>cgo e (s++d) (l.drop (k+1))):=by show _=_;rw[hI.out,hd.out];rfl
      have hu:Hid (pieceO e ⟨pa,fk,pk⟩=if ((AK pa e).size:Int)<fk+pk then none else some ((AK pa e).extract fk (fk+pk))):=by
       show _=_;simp only[pieceO,ha,Zj,if_false,Int.toNat_natCast];rw[show ((fk:Int)+(pk:Int)).toNat=fk+pk by omega]
      have hD:=ek_ (addr:=pa) hstr
      go_wp2_with fail
      refine (jS_ a' n' cap' e pa _ ((h'.below hB).alloc _) hn').mono ?_;rintro x w3 ⟨rfl,hj⟩;generalize AK pa e=D at *;obtain⟨z0,z1,z2,hq,_⟩:=De hj;clear hj c0 c1 c2;have hb:=iG_ hc hq;have ht:=Aa hB hq;clear hc;by_cases hlt2:(D.size:Int)<fk+pk
      ·rw[if_pos hlt2] at hu;go_wp2;go_returns;rw[hv.out,hu.out];exact⟨rfl,ht⟩
      ·rw[if_neg hlt2] at hu;have hM:(fk:Int)+(pk:Int)<=D.size:=by omega
       have hL:=run_slice_string (P:=prog) (w:=w3) 9 D .i64 .i64 fk (fk+pk) underlying9 (by omega) (by omega) (by omega);rw[show ((fk:Int)+(pk:Int)).toNat=fk+pk by omega,Int.toNat_natCast] at hL;have hQ:(D.extract fk (fk+pk)).size=pk:=by rw[ByteArray.size_extract];omega
       generalize D.extract fk (fk+pk)=X at *
       go_wp2_with (at_builtin;refine wpList_append_own_string _ rfl _ _ 22 9 rfl w.heap.size 5 i0 underlying22 underlying9 hi hz hA hC _ m (strCells s) rfl hb X rfl (by unfold maxLen;omega) (by omega) ht.size ?_;intro v5 w5 he hG _)
       obtain⟨a3,cap3,rfl⟩:=iH_ he;rw[d4_] at he;have hE:Below w.heap.size w w5:=ht.grown hG ht.size (iF_ hb);go_roundw
       case rel=>exact⟨k+1,m+X.size,s++X,a3,cap3,by omega,by go_num,by omega,rfl,he,by show _=_;rw[hv.out,hu.out],hE⟩
       case measure=>simp[RowKit.intOf];omega
     ·have hv:Hid (R=cgo e (s++zs pk) (l.drop (k+1))):=by
       show _=_;rw[hI.out,hd.out];simp[cgo,pieceO,ha]
      have hs:∀ x,(wr.alloc x).ownsRow w.heap.size 5 1 (.slice a2 m cap2) m (strCells s):=fun x=>iG_ hc ((Yg _ _).alloc (Zd _) _)
      go_wp2_with (at_builtin;refine eY_ _ rfl _ _ 22 2 9 rfl w.heap.size 5 i0 .i64 underlying22 underlying2 underlying9 hi hz hA hC _ m (strCells s) rfl (hs _) .i64 pk rfl (by omega) (by omega) (by simp;omega) ?_;intro v3 w3 hb hF)
      obtain⟨a3,cap3,rfl⟩:=iH_ hb;rw[d4_] at hb;have hj:Below w.heap.size w w3:=Yi (by go_grown) hF (by simp;omega) (iF_ hc);go_roundw
      case rel=>exact⟨k+1,m+pk,s++zs pk,a3,cap3,by omega,by go_num,by omega,rfl,hb,hv,hj⟩
      case measure=>simp[RowKit.intOf];omega
    ·obtain rfl:k=n:=by omega
     have hy:=jO_ (P:=prog) hc 22 underlying22 underlying5 9 underlying9;go_wp2;go_returns;rw[hI.out,Ze (by rw[hr.out];exact Zd _)];exact⟨rfl,hB⟩
end
end Go.Proofs.YtdmeabghpchckaaGreatDoor
