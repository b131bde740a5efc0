/- The laws' comparisons of lists of items and volumes, where they are the same. -/
import Derived.Lib.SmallJoins
import Derived.Test.YteejlahappbalaaGreatDoorU01
set_option maxHeartbeats 20000000
set_option maxRecDepth 100000
namespace Go.Proofs.YteejlahappbalaaGreatDoor
section
open Go.ChangeShapes Go.WideShapes Go.ChangeAt Go.RowKit Go.Deep Tryz
theorem SF:laidOutB prog=true:=by kernel_rfl
theorem c2:prog.cellsOf 2=1:=by kernel_rfl
end
section
open Go Go.RowKit Go.BigFrame Tryz
variable{B:Nat}{p:Po}{v:Value}{w:World}
def AC (B:Nat)(w:World)(v:Value)(p:Po):Prop:=
 ∃ ea en ec va vn vc ra rn rc la ln lc,v=.agg #[.int .i64 p.size,.int .i64 p.next,.slice ea en ec,.slice va vn vc,.slice ra rn rc,.slice la ln lc]∧
  (Cg w ea en p.ex∧Hd B ea en ec∧Sf B w ea)∧(Ek B w va vn p.vs∧Hd B va vn vc)∧(A8 w ra rn p.rf∧Hd B ra rn rc∧Sf B w ra)∧(A8 w la ln p.lt∧Hd B la ln lc∧Sf B w la)
structure IR where
 nm:ByteArray
 pa:Option Addr
 pn:Nat
 pc:Nat
end
section
open Go Go.RowKit Go.BigFrame Tryz
variable{c:Array Value}{y:It}{l:List Vo}{B b cap i n:Nat}{a:Option Addr}{p:Po}{t:TypeId}{w:World}
variable{rows:List IR}
variable{r:IR}
structure VR where
 id:Int
 nm:ByteArray
 fx:Bool
 pa:Option Addr
 pn:Nat
 pc:Nat
def irs (r:IR):List Value:=[.string r.nm,.slice r.pa r.pn r.pc]
def vrs (r:VR):List Value:=[.int .i64 r.id,.string r.nm,.bool r.fx,.slice r.pa r.pn r.pc]
structure KU (B:Nat)(w:World)(r:IR)(y:It):Prop where
 nm:r.nm=y.nm
 ps:BH w r.pa r.pn y.ps
 hd:Hd B r.pa r.pn r.pc
 ge:∀ ad,r.pa=some ad->B<=ad.block
 lt:∀ ad,r.pa=some ad->ad.block<w.heap.size
 sf:Sf B w r.pa
structure Em (B:Nat)(w:World)(rows:List IR)(l:List It):Prop where
 len:rows.length=l.length
 at':∀ (i:Nat) r y,rows[i]?=some r->l[i]?=some y->KU B w r y
theorem py{p:Prop}(h:p:=by
 rcases R.own with⟨h0,_⟩ | ⟨b',h1,h2,_,_,c,h3,_⟩
 ·rw[h0] at e;cases e
 ·rw[h1] at e;cases e;exact⟨h2,c,t,h3⟩):p:=h
theorem pO{p:Prop}(h:p:=by
 rcases R.own with⟨h0,_⟩ | ⟨b',h1,h2,_⟩
 ·rw[h0] at ha;cases ha
 ·rw[h1] at ha;cases ha;exact h2):p:=h
theorem oK{p:Prop}(h:p:=by simp[hi]):p:=h
theorem Em.its {l:List It}(R:Ac irs 2 t w B a n cap rows)(h:Em B w rows l):BT B w a n l:=by
 refine⟨by rw[<-h.len];exact R.sl.len,fun i y hy=>?_⟩;have hi:i<rows.length:=by rw[h.len];exact (Zb.1 hy).1
 have hr:rows[i]?=some rows[i]:=oK;obtain⟨b,o,ha,hc⟩:=R.sl.cell i _ hr;have hR:=h.at' i _ y hr hy;have he:Sf B w a:=fun _ ad e=>by
  exact py
 have hb:B<=b:=by
  exact pO
 refine⟨b,o,rows[i].pa,rows[i].pn,rows[i].pc,ha,?_,hc 1 _ rfl,hR.ps,hR.hd,hb,hR.ge,hR.sf,he⟩;have:=hc 0 _ rfl;rw[<-hR.nm];exact this
structure Pi (B:Nat)(w:World)(r:VR)(y:Vo):Prop where
 id:r.id=y.id
 nm:r.nm=y.nm
 fx:r.fx=y.fx
 its:BT B w r.pa r.pn y.its
 hd:Hd B r.pa r.pn r.pc
structure Fr (B:Nat)(w:World)(rows:List VR)(l:List Vo):Prop where
 len:rows.length=l.length
 at':∀ (i:Nat) r y,rows[i]?=some r->l[i]?=some y->Pi B w r y
theorem Fr.vs {rows:List VR}(R:Ac vrs 4 t w B a n cap rows)(h:Fr B w rows l):Ek B w a n l:=by
 refine⟨by rw[<-h.len];exact R.sl.len,fun i y hy=>?_⟩;have hi:i<rows.length:=by rw[h.len];exact (Zb.1 hy).1
 have hr:rows[i]?=some rows[i]:=oK;obtain⟨b,o,ha,hc⟩:=R.sl.cell i _ hr;have hR:=h.at' i _ y hr hy;have he:Sf B w a:=fun _ ad e=>by
  exact py
 have hb:B<=b:=by
  exact pO
 have c0:=hc 0 _ rfl;have c1:=hc 1 _ rfl;have c2:=hc 2 _ rfl;have c3:=hc 3 _ rfl;refine⟨b,o,rows[i].pa,rows[i].pn,rows[i].pc,ha,?_,?_,?_,c3,hR.its,hR.hd,hb,he⟩
 ·rw[<-hR.id];exact c0
 ·rw[<-hR.nm];exact c1
 ·rw[<-hR.fx];exact c2
end
section
open Go Go.RowKit Go.BigFrame Tryz
variable{α:Type}{x:IR}{rs:List IR}{l:List Vo}{B cap i n sz:Nat}{a:Option Addr}{p:Po}{t:TypeId}{r:VR}{v:Value}{y:Vo}{w:World}{cs:α->List Value}
def A7 (p:Po):Prop:=p.ex.length<=4194304∧Strs p.ex∧p.vs.length<=4194304∧KV p.vs∧p.rf.length<=4194304∧Cx p.rf∧p.lt.length<=4194304∧Cx p.lt
structure EL (B:Nat)(w:World)(r:IR)(y:It):Prop where
 nm:r.nm=y.nm
 ps:Ac Pt.cs 3 156 w B r.pa r.pn r.pc y.ps
structure AV (B:Nat)(w:World)(rows:List IR)(l:List It):Prop where
 len:rows.length=l.length
 at':∀ (i:Nat) r y,rows[i]?=some r->l[i]?=some y->EL B w r y
structure Et (B:Nat)(w:World)(r:VR)(y:Vo):Prop where
 id:r.id=y.id
 nm:r.nm=y.nm
 fx:r.fx=y.fx
 its:∃ rows,Ac irs 2 125 w B r.pa r.pn r.pc rows∧AV B w rows y.its
structure Bc (B:Nat)(w:World)(rows:List VR)(l:List Vo):Prop where
 len:rows.length=l.length
 at':∀ (i:Nat) r y,rows[i]?=some r->l[i]?=some y->Et B w r y
theorem Ac.sf {l:List α}(h:Ac cs sz t w B a n cap l):Sf B w a:=fun _ ad e=>by
 rcases h.own with⟨h0,_⟩ | ⟨b',h1,h2,_,_,c,h3,_⟩
 ·rw[h0] at e;cases e
 ·rw[h1] at e;cases e;exact⟨h2,c,t,h3⟩
theorem Ac.hd {l:List α}(h:Ac cs sz t w B a n cap l):Hd B a n cap:=by
 rcases h.own with⟨rfl,rfl,rfl⟩ | ⟨b',rfl,h2,h3,h4,_⟩
 ·exact⟨Zd _,sH,fun _=>⟨fun _=>rfl,fun ad e=>by cases e⟩⟩
 ·exact⟨h3,by unfold maxLen at h4;omega,fun _=>⟨(fun e=>by cases e),fun ad e=>by cases e;rfl⟩⟩
theorem AV.rows {rows:List IR}{l:List It}(h:AV B w rows l):Em B w rows l:=⟨h.len,fun i r y h1 h2=>by
 have h':=h.at' i r y h1 h2;exact⟨h'.nm,h'.ps.sl,h'.ps.hd,fun ad e=>(h'.ps.block ad e).1,fun ad e=>(h'.ps.block ad e).2,h'.ps.sf⟩⟩
theorem Bc.rows {rows:List VR}(h:Bc B w rows l):Fr B w rows l:=⟨h.len,fun i r y h1 h2=>by
 obtain⟨e1,e2,e3,rs,R,T⟩:=h.at' i r y h1 h2;exact⟨e1,e2,e3,T.rows.its R,R.hd⟩⟩
def AM (B:Nat)(w:World)(v:Value)(p:Po):Prop:=
 ∃ ea en ec va vn vc ra rn rc la ln lc rows,v=.agg #[.int .i64 p.size,.int .i64 p.next,.slice ea en ec,.slice va vn vc,.slice ra rn rc,.slice la ln lc]∧
  Ac Ex.cs 2 111 w B ea en ec p.ex∧(Ac vrs 4 115 w B va vn vc rows∧Bc B w rows p.vs)∧Ac Ct.cs 4 70 w B ra rn rc p.rf∧Ac Ct.cs 4 70 w B la ln lc p.lt∧(∀ x y,ra=some x->la=some y->0<rc->0<lc->x.block≠y.block)
theorem AM.at' (h:AM B w v p):AC B w v p:=by
 obtain⟨ea,en,ec,va,vn,vc,ra,rn,rc,la,ln,lc,rows,hv,h1,⟨h2,h3⟩,h4,h5,h6⟩:=h;exact⟨ea,en,ec,va,vn,vc,ra,rn,rc,la,ln,lc,hv,⟨h1.sl,h1.hd,h1.sf⟩,⟨h3.rows.vs h2,h2.hd⟩,⟨h4.sl,h4.hd,h4.sf⟩,h5.sl,h5.hd,h5.sf⟩
end
section
open Go Go.RowKit Go.BigFrame Tryz
variable{α:Type}{l:List Vo}{B b i n:Nat}{a:Option Addr}{p:Po}{v:Value}{w w':World}{x:α}
theorem Ek.grown {r:Nat}(h:Ek B w a n l)(hg:w.grownBy w' (some r))(hr:r<B):Ek B w' a n l:=
 ⟨h.len,fun i x hx=>by
  obtain⟨b,o,pa,pn,pc,ha,c0,c1,c2,c3,hp,hh,hB,s2⟩:=h.cell i x hx;exact⟨b,o,pa,pn,pc,ha,hg.cell c0 sN,hg.cell c1 sN,hg.cell c2 sN,hg.cell c3 sN,hp.grown hg hr,hh,hB,s2.grown hg hr⟩⟩
theorem AC.below (h:AC B w v p)(hb:Below w.heap.size w w'):AC B w' v p:=by
 obtain⟨ea,en,ec,va,vn,vc,ra,rn,rc,la,ln,lc,hv,⟨h1,k1⟩,⟨h2,k2⟩,⟨h3,k3⟩,h4,k4⟩:=h;exact⟨ea,en,ec,va,vn,vc,ra,rn,rc,la,ln,lc,hv,⟨h1.below hb,k1.1,k1.2.below hb⟩,⟨h2.below hb,k2⟩,⟨h3.below hb,k3.1,k3.2.below hb⟩,h4.below hb,k4.1,k4.2.below hb⟩
theorem AC.mono {B':Nat}(h:AC B w v p)(hb:B'<=B):AC B' w v p:=by
 obtain⟨ea,en,ec,va,vn,vc,ra,rn,rc,la,ln,lc,hv,⟨h1,k1⟩,⟨h2,k2⟩,⟨h3,k3⟩,h4,k4⟩:=h;exact⟨ea,en,ec,va,vn,vc,ra,rn,rc,la,ln,lc,hv,⟨h1,k1.1.mono hb,k1.2.mono hb⟩,⟨h2.mono hb,k2.mono hb⟩,⟨h3,k3.1.mono hb,k3.2.mono hb⟩,h4,k4.1.mono hb,k4.2.mono hb⟩
end
section
open Go Go.RowKit Go.BigFrame Tryz
variable{α:Type}{y:It}{L:List Ct}{l:List Vo}{B M cap i n:Nat}{a:Option Addr}{out:Value}{w w':World}{x:α}{cs:α->List Value}
variable{rows:List IR}
variable{r:IR}
theorem KU.below (h:KU B w r y)(hb:Below w.heap.size w w'):KU B w' r y:=
 ⟨h.nm,h.ps.below hb,h.hd,h.ge,fun ad e=>Zy (h.lt ad e) hb.size,h.sf.below hb⟩
theorem Em.nil (B:Nat)(w:World):Em B w [] []:=⟨rfl,fun i r y h=>by simp at h⟩
theorem Em.below {l:List It}(h:Em B w rows l)(hb:Below w.heap.size w w'):Em B w' rows l:=⟨h.len,fun i r y h1 h2=>(h.at' i r y h1 h2).below hb⟩
theorem Pi.below {r:VR}{y:Vo}(h:Pi B w r y)(hb:Below w.heap.size w w'):Pi B w' r y:=⟨h.id,h.nm,h.fx,h.its.below hb,h.hd⟩
theorem Fr.nil (B:Nat)(w:World):Fr B w [] []:=⟨rfl,fun i r y h=>by simp at h⟩
theorem Fr.below {rows:List VR}(h:Fr B w rows l)(hb:Below w.heap.size w w'):Fr B w' rows l:=⟨h.len,fun i r y h1 h2=>(h.at' i r y h1 h2).below hb⟩
structure Fnd (w:World)(B:Nat)(out:Value)(L:List Ct)(M:Nat):Prop where
 at':∃ a n cap,out=.slice a n cap∧n<=M∧Ac Ct.cs 4 70 w B a n cap L
 bd:∀ x∈L,-(1000*(M:Int))<=x.n∧x.n<=1000*(M:Int)
theorem Fnd.below (h:Fnd w B out L M)(hb:Below w.heap.size w w'):Fnd w' B out L M:=by
 obtain⟨⟨a,n,cap,e,hn,R⟩,ha⟩:=h;exact⟨⟨a,n,cap,e,hn,R.below hb⟩,ha⟩
theorem Fnd.mono {M':Nat}(h:Fnd w B out L M)(hM:M<=M'):Fnd w B out L M':=by
 obtain⟨⟨a,n,cap,e,hn,R⟩,ha⟩:=h;exact⟨⟨a,n,cap,e,sH,R⟩,fun x hx=>by have:=ha x hx;omega⟩
end
section
open Go Go.RowKit Go.BigFrame Tryz
variable{l:List Vo}{B B' i:Nat}{p:Po}{r:VR}{v:Value}{y:Vo}{w w':World}
theorem EL.below {r:IR}{y:It}(h:EL B w r y)(hb:Below w.heap.size w w'):EL B w' r y:=⟨h.nm,h.ps.below hb⟩
theorem AV.below {rows:List IR}{l:List It}(h:AV B w rows l)(hb:Below w.heap.size w w'):AV B w' rows l:=⟨h.len,fun i r y h1 h2=>(h.at' i r y h1 h2).below hb⟩
theorem Et.below (h:Et B w r y)(hb:Below w.heap.size w w'):Et B w' r y:=by
 obtain⟨h1,h2,h3,rows,R,T⟩:=h;exact⟨h1,h2,h3,rows,R.below hb,T.below hb⟩
theorem Bc.below {rows:List VR}(h:Bc B w rows l)(hb:Below w.heap.size w w'):Bc B w' rows l:=⟨h.len,fun i r y h1 h2=>(h.at' i r y h1 h2).below hb⟩
theorem EL.mono {r:IR}{y:It}(h:EL B w r y)(hb:B'<=B):EL B' w r y:=⟨h.nm,h.ps.mono hb⟩
theorem AV.mono {rows:List IR}{l:List It}(h:AV B w rows l)(hb:B'<=B):AV B' w rows l:=⟨h.len,fun i r y h1 h2=>(h.at' i r y h1 h2).mono hb⟩
theorem Et.mono (h:Et B w r y)(hb:B'<=B):Et B' w r y:=by
 obtain⟨h1,h2,h3,rows,R,T⟩:=h;exact⟨h1,h2,h3,rows,R.mono hb,T.mono hb⟩
theorem Bc.mono {rows:List VR}(h:Bc B w rows l)(hb:B'<=B):Bc B' w rows l:=⟨h.len,fun i r y h1 h2=>(h.at' i r y h1 h2).mono hb⟩
theorem AV.nil (B:Nat)(w:World):AV B w [] []:=⟨rfl,fun i r y h=>by simp at h⟩
theorem Bc.nil (B:Nat)(w:World):Bc B w [] []:=⟨rfl,fun i r y h=>by simp at h⟩
theorem AM.below (h:AM B w v p)(hb:Below w.heap.size w w'):AM B w' v p:=by
 obtain⟨ea,en,ec,va,vn,vc,ra,rn,rc,la,ln,lc,rows,hv,h1,⟨h2,h3⟩,h4,h5,h6⟩:=h;exact⟨ea,en,ec,va,vn,vc,ra,rn,rc,la,ln,lc,rows,hv,h1.below hb,⟨h2.below hb,h3.below hb⟩,h4.below hb,h5.below hb,h6⟩
theorem AM.mono (h:AM B w v p)(hb:B'<=B):AM B' w v p:=by
 obtain⟨ea,en,ec,va,vn,vc,ra,rn,rc,la,ln,lc,rows,hv,h1,⟨h2,h3⟩,h4,h5,h6⟩:=h;exact⟨ea,en,ec,va,vn,vc,ra,rn,rc,la,ln,lc,rows,hv,h1.mono hb,⟨h2.mono hb,h3.mono hb⟩,h4.mono hb,h5.mono hb,h6⟩
theorem bL_ (h:Ai p=true):p.vs.length<=6∧vgo p.next p.ex 0 p.vs=true∧p.next<=1000000000∧Af p.size p.ex=true∧(p.vs.map (·.nm.toList)).Nodup:=by
 simp only[Ai,Fj,ET,Zf,ZU] at h;exact⟨h.1.1.1.2.1,h.1.1.1.2.2,h.1.1.1.1.2,h.1.1.1.1.1.1,h.1.1.2⟩
end
section
open Go.ChangeShapes Go.WideShapes Go.ChangeAt Go.RowKit Go.Deep Tryz
theorem own:ownKnob prog.godebug=none:=by kernel_rfl
end
section
open Go Go.RowKit Go.BigFrame Tryz
variable{p:Po}
theorem dr{p:Prop}(h:p:=by simp[h.len]):p:=h
end
section
open Go Go.RowKit Go.BigFrame Tryz
variable{α β:Type}{l:List Vo}{B i k:Nat}{r:VR}{y:Vo}{w:World}
theorem mB_ {R:α->β->Prop}{rows:List α}{l:List β}{r:α}{y:β}(h:∀ (i:Nat) r y,rows[i]?=some r->l[i]?=some y->R r y)(h':R r y):∀ (i:Nat) q z,(rows.set k r)[i]?=some q->(l.set k y)[i]?=some z->R q z:=by
 intro i q z h1 h2;by_cases hi:k=i
 ·subst hi;have e1:=(Zb.1 h1).1;have e2:=(Zb.1 h2).1;rw[List.length_set] at e1 e2;rw[Zx e1] at h1;rw[Zx e2] at h2
  cases h1;cases h2;exact h'
 ·rw[ZJ hi] at h1 h2;exact h i q z h1 h2
theorem Bc.set {rows:List VR}(k:Nat)(h:Bc B w rows l)(h':Et B w r y):Bc B w (rows.set k r) (l.set k y):=⟨dr,mB_ h.at' h'⟩
end
section
open Go Go.RowKit Go.BigFrame Tryz
theorem rG{p:Prop}(h:p:=by rw[hR.out];rfl):p:=h
end
section
open Go Go.RowKit Go.BigFrame Tryz
variable{α:Type}{c:Array Value}{l:List Vo}{B b cap i j k n sz:Nat}{a:Option Addr}{row:Option Nat}{t t':TypeId}{v:Value}{w w':World}{x:α}{cs:α->List Value}
theorem kb_ {l:List α}(h:AH cs sz w a n l)(hg:w.grownBy w' row)(hr:∀ ad,a=some ad->some ad.block≠row):AH cs sz w' a n l:=by
 refine⟨h.len,fun i x hx=>?_⟩;obtain⟨b,o,ha,hc⟩:=h.cell i x hx;exact⟨b,o,ha,fun j v hv=>hg.cell (hc j v hv) (hr ⟨b,o,none⟩ ha)⟩
theorem kc_ {c':Array Value}(h:Blk w b c t)(h':Blk w b c' t'):t=t':=by
 unfold Blk at h h';rw[h] at h';injection h' with e;injection e
def BC (w:World)(row:Option Nat)(t:TypeId):Prop:=∀ k,row=some k->∃ c,Blk w k c t
theorem Ac.rowTy {l:List α}(h:Ac cs sz t w B a n cap l){m:Nat}:BC w (Value.ownBlock (.slice a m k)) t:=by
 rcases h.own with⟨rfl,_⟩ | ⟨b,rfl,_,_,_,c,hc,_⟩
 ·intro k e;simp[Value.ownBlock] at e
 ·intro k e;simp[Value.ownBlock] at e;subst e;exact⟨c,hc⟩
theorem Ac.off {l:List α}(h:Ac cs sz t w B a n cap l)(hg:w.grownBy w' row)(hr:∀ ad,a=some ad->some ad.block≠row):Ac cs sz t w' B a n cap l:=by
 refine⟨kb_ h.sl hg hr,?_⟩;rcases h.own with h0 | ⟨b,ha,hB,h1,h2,c,hc,q⟩
 ·exact .inl h0
 ·exact .inr ⟨b,ha,hB,h1,h2,c,(hg.block _ hc.lt (hr _ ha)).trans hc,q⟩
theorem Ac.ty {l:List α}(h:Ac cs sz t w B a n cap l)(hg:w.grownBy w' row)(hr:BC w row t')(ht:t≠t'):Ac cs sz t w' B a n cap l:=by
 refine h.off hg (fun ad e hc=>?_);obtain⟨c',h'⟩:=hr _ hc.symm;rcases h.own with⟨h0,_⟩ | ⟨b,ha,_,_,_,c,hb,_⟩
 ·rw[h0] at e;cases e
 ·rw[ha] at e;cases e;exact ht (kc_ hb h')
theorem Blk.ty (h:Blk w b c t)(hg:w.grownBy w' row)(hr:BC w row t')(ht:t≠t'):Blk w' b c t:=by
 refine (hg.block _ h.lt (fun e=>?_)).trans h;obtain⟨c',h'⟩:=hr _ e.symm;exact ht (kc_ h h')
end
section
open Go Go.RowKit Go.BigFrame Tryz
variable{l:List Vo}{B i:Nat}{row:Option Nat}{t':TypeId}{r:VR}{y:Vo}{w w':World}
theorem AV.ty {rows:List IR}{l:List It}(h:AV B w rows l)(hg:w.grownBy w' row)(hr:BC w row t')(ht:(156:TypeId)≠t'):AV B w' rows l:=⟨h.len,fun i r y h1 h2=>⟨(h.at' i r y h1 h2).nm,(h.at' i r y h1 h2).ps.ty hg hr ht⟩⟩
theorem Et.ty (h:Et B w r y)(hg:w.grownBy w' row)(hr:BC w row t')(ht:(156:TypeId)≠t')(ht':(125:TypeId)≠t'):Et B w' r y:=by
 obtain⟨h1,h2,h3,rows,R,T⟩:=h;exact⟨h1,h2,h3,rows,R.ty hg hr ht',T.ty hg hr ht⟩
theorem Bc.ty {rows:List VR}(h:Bc B w rows l)(hg:w.grownBy w' row)(hr:BC w row t')(ht:(156:TypeId)≠t')(ht':(125:TypeId)≠t'):Bc B w' rows l:=⟨h.len,fun i r y h1 h2=>(h.at' i r y h1 h2).ty hg hr ht ht'⟩
end
section
open Go.RowKit Go.BigFrame Go.Lib Tryz
theorem df{p:Prop}(h:p:=by rw[ByteArray.size_extract];omega):p:=h
end
section
open Go Go.RowKit Go.BigFrame Tryz
variable{α:Type}{l:List Vo}{a:Option Addr}{p:Po}{v:Value}{x:α}
def Ii (l:List Vo):Prop:=l.length<=6∧∀ v∈l,v.its.length<=5∧∀ x∈v.its,x.ps.length<=16∧∀ p∈x.ps,0<=p.a
def BP (v:Vo)(l:List It):List Ct:=l.flatMap (fun x=>AX v.id x.nm x.ps)
end
section
open Go Go.RowKit
variable{next:Int}{e:List Ex}
theorem db_:∀ {l:List It} {q:Option It},igo e q l=true->∀ x∈l,(Ax x.ps e).isSome=true
 |[],_,_,x,hx=>by cases hx
 |y::r,q,h,x,hx=>by
  simp only[igo,Zf] at h;rcases Zn.1 hx with rfl | hx
  ·exact h.1.2
  ·exact db_ h.2 x hx
theorem b0_:∀ {l:List Vo} {last:Int},vgo next e last l=true->∀ v∈l,itemsB v.its e=true∧nameB v.nm=true∧last<v.id∧v.id<next
 |[],_,_,v,hv=>by cases hv
 |u::r,last,h,v,hv=>by
  simp only[vgo,Zf,ZU] at h;rcases Zn.1 hv with rfl | hv
  ·exact⟨h.1.2,h.1.1.2,h.1.1.1.1,h.1.1.1.2⟩
  ·have:=b0_ h.2 v hv
   exact⟨this.1,this.2.1,sH,this.2.2.2⟩
theorem cT_ {p:Pt}(h:Al p=true):0<=p.a:=by
 unfold Al at h;split at h
 ·rename_i h0;simp at h0;omega
 ·simp at h;omega
theorem g2_ {l:List Vo}{last:Int}(h6:l.length<=6)(h:vgo next e last l=true):Ii l:=by
 refine⟨h6,fun v hv=>?_⟩;obtain⟨hi,_⟩:=b0_ h v hv;simp only[itemsB,Zf,ZU] at hi;refine⟨hi.1,fun x hx=>?_⟩;have hc:=db_ hi.2 x hx;have hp:Ae x.ps=true:=by
  unfold Ax at hc;split at hc
  ·rename_i hh;exact hh.1
  ·cases hc
 obtain⟨q1,q2,_⟩:=ae_ hp;exact⟨q1,fun p ha=>cT_ (q2 p ha)⟩
end
section
open Go Go.RowKit Go.BigFrame Tryz
variable{c:Array Value}{y:It}{l:List Vo}{B b i k:Nat}{p:Po}{t:TypeId}{w:World}
variable{rows:List IR}
variable{r:IR}
theorem aa_ (h:Blk w b c t):BC w (some b) t:=fun k e=>by cases e;exact⟨c,h⟩
theorem oR{p:Prop}(h:p:=by have:=(Zb.1 h1).1;simp at this;omega):p:=h
theorem mg{p:Prop}(h:p:=by
 refine⟨dr,fun i q z h1 h2=>?_⟩;by_cases hi:i<rows.length
 ·rw[ZD hi] at h1;rw[ZD (by rw[<-h.len];exact hi)] at h2;exact h.at' i q z h1 h2
 ·rw[Zv sH] at h1;rw[Zv (by rw[<-h.len];omega)] at h2;have h0:i-rows.length=0:=oR
  rw[h0] at h1;rw[<-h.len,h0] at h2;simp at h1 h2;subst h1 h2;exact h'):p:=h
theorem Em.snoc {l:List It}(h:Em B w rows l)(h':KU B w r y):Em B w (rows++[r]) (l++[y]):=by
 exact mg
theorem Fr.snoc {rows:List VR}{r:VR}{y:Vo}(h:Fr B w rows l)(h':Pi B w r y):Fr B w (rows++[r]) (l++[y]):=by
 exact mg
end
section
open Go Go.RowKit Go.BigFrame Tryz
variable{α β:Type}{l:List Vo}{B i:Nat}{r:VR}{y:Vo}{w:World}
theorem kl_ {R:α->β->Prop}{rows:List α}{l:List β}{r:α}{y:β}(hl:rows.length=l.length)(h:∀ (i:Nat) r y,rows[i]?=some r->l[i]?=some y->R r y)(h':R r y):∀ (i:Nat) q z,(rows++[r])[i]?=some q->(l++[y])[i]?=some z->R q z:=by
 intro i q z h1 h2;by_cases hi:i<rows.length
 ·rw[ZD hi] at h1;rw[ZD (by rw[<-hl];exact hi)] at h2;exact h i q z h1 h2
 ·rw[Zv sH] at h1;rw[Zv (by rw[<-hl];omega)] at h2;have h0:i-rows.length=0:=oR;rw[h0] at h1;rw[<-hl,h0] at h2;simp at h1 h2;subst h1 h2;exact h'
theorem AV.snoc {rows:List IR}{l:List It}{r:IR}{y:It}(h:AV B w rows l)(h':EL B w r y):AV B w (rows++[r]) (l++[y]):=⟨dr,kl_ h.len h.at' h'⟩
theorem Bc.snoc {rows:List VR}(h:Bc B w rows l)(h':Et B w r y):Bc B w (rows++[r]) (l++[y]):=⟨dr,kl_ h.len h.at' h'⟩
end
section
open Go Go.RowKit Go.BigFrame Tryz
variable{c:Array Value}{B b k:Nat}{row:Option Nat}{t:TypeId}{w w':World}
theorem Blk.offB (h:Blk w b c t)(hg:w.grownBy w' row)(hr:∀ k,row=some k->B<=k)(hb:b<B):Blk w' b c t:=
 (hg.block _ h.lt (fun e=>by have:=hr b e.symm;omega)).trans h
end
section
open Go.ChangeShapes Go.WideShapes Go.ChangeAt Go.RowKit Go.Deep Tryz
theorem c9:prog.cellsOf 9=1:=by kernel_rfl
end
section
open Go Go.RowKit Go.BigFrame Tryz
variable{α:Type}{l:List Vo}{j k:Nat}{a:Option Addr}{p:Po}{v:Value}{x:α}
theorem gI_ {id:Int}{nm:ByteArray}{ps:List Pt}{p:Pt}(h:ps[j]?=some p):AX id nm (ps.take (j+1))=AX id nm (ps.take j)++(if p.a==0 then [] else [⟨⟨p.a,id,nm⟩,1⟩]):=by
 unfold AX;rw[bx_ h,YR,List.map_append]
 cases hp:(p.a==0)<;>simp[hp]
theorem fq_ {v:Vo}{l:List It}{x:It}(h:l[k]?=some x):BP v (l.take (k+1))=BP v (l.take k)++AX v.id x.nm x.ps:=by
 unfold BP;rw[bx_ h,ZQ];simp
end
section
open Go.RowKit Go.BigFrame Go.Lib Tryz
variable{e:Nat}
def Ph (e:Ending):Option ByteArray->Prop
 |none=>e=.returned (.tuple #[.string ⟨#[]⟩,.bool false])
 |some s=>e=.returned (.tuple #[.string s,.bool true])
theorem TG:(prog.info? 5).map (fun i=>(i.zero,i.size,i.bytes))=some (some (.int .u8 0),1,1):=by kernel_rfl
theorem pI{p:Prop}(h:p:=by show _=_;simp only[pieceO,ha,Zj,if_false,Int.toNat_natCast];rw[show ((fk:Int)+(pk:Int)).toNat=fk+pk by omega]):p:=h
theorem sy{p:Prop}(h:p:=by go_wp2;go_returns;rw[hI.out,Ze (by rw[qg.out];exact Zd _)];exact⟨rfl,hB⟩):p:=h
end
section
open Go Go.RowKit Go.BigFrame Tryz
def Ee (l:List It)(k:Nat):Option It:=if k=0 then none else l[k-1]?
theorem hB_ (l:List It)(k:Nat):Ee l (k+1)=l[k]?:=by simp[Ee]
theorem mz{p:Prop}(h:p:=by go_wp2;go_returns;exact⟨rG,sM⟩):p:=h
theorem mD{p:Prop}(h:p:=by clear hx;go_wp2;go_returns;exact⟨by rw[qh.out];rfl,qF _ qj⟩):p:=h
theorem mI{p:Prop}(h:p:=by
 obtain⟨b',o',y,_,_,_,qW,hy,d0,_⟩:=bO_ (h.below hB) (show k-1<pn by omega);obtain⟨rfl,rfl⟩:b=b'∧o=o':=rE
 exact⟨y,by unfold Ee;rw[if_neg sH];exact hy,d0⟩):p:=h
theorem pp{p:Prop}(h:p:=by refine wpQuiet_nil ?_;intro w2 hx;have qj:=Aa qx (ah_ hx);clear hx;go_wp2;go_returns;exact⟨by rw[qh.out];simp,qF _ qj⟩):p:=h
theorem pW{p:Prop}(h:p:=by
 obtain rfl:k=pn:=sH
 go_wp2;go_returns;exact⟨by rw[hv.out,Ze (Zm qg.out)];rfl,hB⟩):p:=h
theorem oG{p:Prop}(h:p:=by rw[qU];go_grown):p:=h
end
section
open Go Go.RowKit Go.BigFrame Tryz
variable{b:List Nat}{l:List Vo}{k n:Nat}{a:Option Addr}{p:Po}{v:Value}{w:World}
theorem pn_ (p q:Ow)(w:World):(Op.equalIn 9999 68 (.agg #[.int .i64 p.a,.int .i64 p.v,.string p.f]) (.agg #[.int .i64 q.a,.int .i64 q.v,.string q.f])).run prog w=.ok (Cn p q) w:=by
 have u2:=underlying2;have u9:=underlying9;have a2:=Tryz.isAgg2;have a9:=Tryz.isAgg9;have z2:=Tryz.sizeOf2;have z9:=Tryz.sizeOf9;have hS:prog.underlying 68=some (.struct (prog.fieldsOf 68)):=sI;have hp:prog.stoodInHeld 68=false:=sI;rw[show (9999:Nat)=9998+1 from rfl,run_equalIn_agg w 9998 68 _ _ hS hp];simp only[Program.fieldsOf,underlying68];clear hS hp;exact pC
theorem UU (p q:Ct)(w:World):(binOp .neq 70 (.agg #[.int .i64 p.o.a,.int .i64 p.o.v,.string p.o.f,.int .i64 p.n]) (.agg #[.int .i64 q.o.a,.int .i64 q.o.v,.string q.o.f,.int .i64 q.n])).run prog w=.ok (.bool (!Or p q)) w:=by
 have he:=pn_ p.o q.o;have u2:=underlying2;have a2:=Tryz.isAgg2;have z2:=Tryz.sizeOf2;have hz:=Tryz.sizeOf68;have ha:=Tryz.isAgg68;have hS:prog.underlying 70=some (.struct (prog.fieldsOf 70)):=sI;have hp:prog.stoodInHeld 70=false:=sI;rw[run_neq_struct,show (10000:Nat)=9999+1 from rfl,run_equalIn_agg w 9999 70 _ _ hS hp];simp only[Program.fieldsOf,underlying70];clear hS hp;unfold Or
 cases hb:Cn p.o q.o;all_goals rw[hb] at he
 ·go_simp
 ·by_cases h1:p.n=q.n
  ·go_simp
  ·go_simp
theorem lF{p:Prop}(h:p:=by
 obtain⟨k,hk,rfl,hI,hB⟩:=hrel;by_cases hlt:k<n
 ·obtain⟨b,o,p,rfl,hp,c0,c1,c2,c3⟩:=aN_ (h.below hB) hlt;obtain⟨b',o',q,rfl,hq,d0,d1,d2,d3⟩:=aN_ (h'.below hB) hlt;have hd:Hid (l.drop k=p::l.drop (k+1)):=al_ hp;have kr:Hid (m.drop k=q::m.drop (k+1)):=al_ hq;clear hp hq;have jW:(k:Int)<n:=sH;have jN:(0:Int)<=k:=sH;have js:=UU p q
  cases zu:Or p q;all_goals rw[zu] at js
  ·go_wp2_with fail;go_quiet (fail);have qj:=below_drewN hB nq;go_wp2;go_returns;go_light;refine⟨ac_ ?_,qj⟩;rw[hI.out,hd.out,kr.out];simp only[BU,zu,Zr]
  ·go_wp2_with fail;go_quiet (fail);have qj:=below_drewN hB nq;go_wp2;go_roundw
   case rel=>exact⟨k+1,sH,sQ,by show _=_;rw[hI.out,hd.out,kr.out];simp only[BU,zu,Zp],qj⟩
   case measure=>simp[intOf];omega
 ·obtain rfl:k=n:=sH
  go_wp2;go_returns;go_light;refine⟨ac_ ?_,hB⟩;rw[hI.out,Ze (Zm qg.out),Ze (Zm qM.out)];rfl):p:=h
theorem pS{p:Prop}(h:p:=by go_wp2;go_returns;go_light;refine⟨ac_ ?_,Yg _ _⟩;rw[gg_ (by rw[qg.out,qM.out];exact hne)]):p:=h
end
section
open Go Go.RowKit
variable{next size:Int}{e:List Ex}
theorem kh_ {size':Int}(h:size<=size'):∀ {l:List Ex} {next:Int},xgo size next l=true->xgo size' next l=true
 |[],_,_=>rfl
 |x::r,next,hx=>by
  simp only[xgo,Zf,ZU] at hx ⊢;exact⟨⟨⟨hx.1.1.1,hx.1.1.2⟩,sH⟩,kh_ h hx.2⟩
theorem iI_ (h:Af size e=true):Af 400 e=true:=by
 simp only[Af,Zf,ZU] at h ⊢;exact⟨⟨⟨sH,sH⟩,h.1.2⟩,kh_ h.1.1.2 h.2⟩
end
section
open Go Go.RowKit Go.BigFrame Tryz
variable{x:IR}{b:List Nat}{k:Nat}{a:Option Addr}{p:Po}{w w':World}
theorem sA{p:Prop}(h:p:=by go_wp2;go_returns;exact⟨ac_ (by rw[hI.out,hd.out];simp[he]),Aa qx hB⟩):p:=h
theorem oW{p:Prop}(h:p:=by show _=_;rw[hI.out,hd.out];simp only[List.any_cons,he,Bool.false_or]):p:=h
theorem gJ_ (size next:Int)(ea:Option Addr)(en ec:Nat)(va:Option Addr)(vn vc:Nat)(ra:Option Addr)(rn rc:Nat)(la:Option Addr)(ln lc:Nat)(rf lt:List Ct)(addr:Int)(w:World)(h:A8 w ra rn rf)(h':A8 w la ln lt)(hn:rn<=4194304)(hn':ln<=4194304):
  Calls prog 95 #[.agg #[.int .i64 size,.int .i64 next,.slice ea en ec,.slice va vn vc,.slice ra rn rc,.slice la ln lc],.int .i64 addr] w fun e w'=>e=.returned (.bool ((rf++lt).any (fun c=>c.o.a==addr)))∧Below w.heap.size w w':=by
 have hb:Hid (rf.length=rn):=h.len;have ha:Hid (lt.length=ln):=h'.len;have hR:Hid ((rf++lt).any (fun c=>c.o.a==addr)=((rf.drop 0).any (fun c=>c.o.a==addr)||lt.any (fun c=>c.o.a==addr))):=by show _=_;rw[List.any_append];rfl
 generalize (rf++lt).any (fun c=>c.o.a==addr)=R at *;go_enter func95,ntmps95;go_wp2_with fail;have C4:(w.alloc (.cells #[.int .i64 size,.int .i64 next,.slice ea en ec,.slice va vn vc,.slice ra rn rc,.slice la ln lc] 33)).cell? ⟨w.heap.size,4,none⟩=some (.slice ra rn rc):=(Blk.new w _ _).cell 4;have C5:(w.alloc (.cells #[.int .i64 size,.int .i64 next,.slice ea en ec,.slice va vn vc,.slice ra rn rc,.slice la ln lc] 33)).cell? ⟨w.heap.size,5,none⟩=some (.slice la ln lc):=(Blk.new w _ _).cell 5;have qx:Below w.heap.size w (w.alloc (.cells #[.int .i64 size,.int .i64 next,.slice ea en ec,.slice va vn vc,.slice ra rn rc,.slice la ln lc] 33)):=sM;generalize w.alloc (.cells #[.int .i64 size,.int .i64 next,.slice ea en ec,.slice va vn vc,.slice ra rn rc,.slice la ln lc] 33)=W0 at *;go_loopw [5] (fun ix wr=>∃ (k:Nat),k<=rn∧ix=.int .i64 k∧Hid (R=((rf.drop k).any (fun c=>c.o.a==addr)||lt.any (fun c=>c.o.a==addr)))∧Below W0.heap.size W0 wr) (fun ix _=>rn-(intOf ix).toNat)
 case atStart=>exact⟨0,Zg _,rfl,hR,Yg _ _⟩
 case round=>
  clear hR;obtain⟨k,hk,rfl,hI,hB⟩:=hrel;have c4:=Ab hB C4;by_cases hlt:k<rn
  ·obtain⟨b,o,p,rfl,hp,c0,c1,c2,c3⟩:=aN_ (h.below (Aa qx hB)) hlt;have hd:Hid (rf.drop k=p::rf.drop (k+1)):=al_ hp;clear hp c1 c2 c3;have hf:(k:Int)<rn:=sH;have hg:(0:Int)<=k:=sH
   cases he:(p.o.a==addr)
   ·go_wp2;go_roundw
    case rel=>exact⟨k+1,sH,sQ,oW,hB⟩
    case measure=>simp[intOf];omega
   ·exact sA
  ·obtain rfl:k=rn:=sH;have hc:Hid (R=(lt.drop 0).any (fun c=>c.o.a==addr)):=by show _=_;rw[hI.out,Ze (Zm hb.out)];rfl
   obtain⟨wi,hh⟩:∃ x,x=wr:=⟨_,rfl⟩;subst hh;clear hI;go_wp2_with fail;go_loopw [6] (fun ix wr=>∃ (j:Nat),j<=ln∧ix=.int .i64 j∧Hid (R=(lt.drop j).any (fun c=>c.o.a==addr))∧Below W0.heap.size W0 wr) (fun ix _=>ln-(intOf ix).toNat)
   case atStart=>exact⟨0,Zg _,rfl,hc,hB⟩
   case round=>
    clear hc hB c4;obtain⟨j,hj,rfl,hI,hB⟩:=hrel;have c5:=Ab hB C5;by_cases hlt2:j<ln
    ·obtain⟨b,o,p,rfl,hp,c0,c1,c2,c3⟩:=aN_ (h'.below (Aa qx hB)) hlt2;have hd:Hid (lt.drop j=p::lt.drop (j+1)):=al_ hp;clear hp c1 c2 c3;have hf:(j:Int)<ln:=sH;have hg:(0:Int)<=j:=sH
     cases he:(p.o.a==addr)
     ·go_wp2;go_roundw
      case rel=>exact⟨j+1,sH,sQ,oW,hB⟩
      case measure=>simp[intOf];omega
     ·exact sA
    ·obtain rfl:j=ln:=sH;go_wp2;go_returns;exact⟨ac_ (by rw[hI.out,Ze (Zm ha.out)];rfl),Aa qx hB⟩
end
end Go.Proofs.YteejlahappbalaaGreatDoor
