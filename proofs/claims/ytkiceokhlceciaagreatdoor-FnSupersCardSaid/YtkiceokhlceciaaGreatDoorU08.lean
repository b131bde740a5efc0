/- The laws' comparisons of lists of items and volumes, where they are the same. -/
import Derived.Lib.SmallJoins
import Derived.Test.YtkiceokhlceciaaGreatDoorU03
set_option maxHeartbeats 20000000
set_option maxRecDepth 100000
namespace Go.Proofs.YtkiceokhlceciaaGreatDoor
section
open Go.ChangeShapes Go.WideShapes Go.ChangeAt Go.RowKit Go.Deep Tryz
theorem LN:laidOutB prog=true:=by kernel_rfl
theorem c2:prog.cellsOf 2=1:=by kernel_rfl
end
section
open Go Go.RowKit Go.BigFrame Tryz
structure IR where
 nm:ByteArray
 pa:Option Addr
 pn:Nat
 pc:Nat
end
section
open Go Go.RowKit Go.BigFrame Tryz
variable{c:Array Value}{y:It}{l:List Vo}{B b cap i n:Nat}{a:Option Addr}{t:TypeId}{w:World}
variable{rows:List IR}
variable{r:IR}
structure VR where
 id:Int
 nm:ByteArray
 fx:Bool
 pa:Option Addr
 pn:Nat
 pc:Nat
def irs (r:IR):List Value:=[.string r.nm,.slice r.pa r.pn r.pc]
def vrs (r:VR):List Value:=[.int .i64 r.id,.string r.nm,.bool r.fx,.slice r.pa r.pn r.pc]
structure Kn (B:Nat)(w:World)(r:IR)(y:It):Prop where
 nm:r.nm=y.nm
 ps:BI w r.pa r.pn y.ps
 hd:Hd B r.pa r.pn r.pc
 ge:∀ ad,r.pa=some ad->B<=ad.block
 lt:∀ ad,r.pa=some ad->ad.block<w.heap.size
 sf:Sf B w r.pa
structure Ef (B:Nat)(w:World)(rows:List IR)(l:List It):Prop where
 len:rows.length=l.length
 at':∀ (i:Nat) r y,rows[i]?=some r->l[i]?=some y->Kn B w r y
theorem Ef.its {l:List It}(R:Ad irs 2 t w B a n cap rows)(h:Ef B w rows l):Bw B w a n l:=by
 refine⟨by rw[<-h.len];exact R.sl.len,fun i y hy=>?_⟩;have hi:i<rows.length:=by rw[h.len];exact (Zb.1 hy).1
 have hr:rows[i]?=some rows[i]:=by simp[hi]
 obtain⟨b,o,ha,hc⟩:=R.sl.cell i _ hr;have hR:=h.at' i _ y hr hy
 have he:Sf B w a:=fun _ ad e=>by
  rcases R.own with⟨h0,_⟩ | ⟨b',h1,h2,_,_,c,h3,_⟩
  ·rw[h0] at e;cases e
  ·rw[h1] at e;cases e;exact⟨h2,c,t,h3⟩
 have hb:B<=b:=by
  rcases R.own with⟨h0,_⟩ | ⟨b',h1,h2,_⟩
  ·rw[h0] at ha;cases ha
  ·rw[h1] at ha;cases ha;exact h2
 refine⟨b,o,rows[i].pa,rows[i].pn,rows[i].pc,ha,?_,hc 1 _ rfl,hR.ps,hR.hd,hb,hR.ge,hR.sf,he⟩
 have:=hc 0 _ rfl
 rw[<-hR.nm];exact this
structure Ko (B:Nat)(w:World)(r:VR)(y:Vo):Prop where
 id:r.id=y.id
 nm:r.nm=y.nm
 fx:r.fx=y.fx
 its:Bw B w r.pa r.pn y.its
 hd:Hd B r.pa r.pn r.pc
structure Eg (B:Nat)(w:World)(rows:List VR)(l:List Vo):Prop where
 len:rows.length=l.length
 at':∀ (i:Nat) r y,rows[i]?=some r->l[i]?=some y->Ko B w r y
theorem Eg.vs {rows:List VR}(R:Ad vrs 4 t w B a n cap rows)(h:Eg B w rows l):Bp B w a n l:=by
 refine⟨by rw[<-h.len];exact R.sl.len,fun i y hy=>?_⟩;have hi:i<rows.length:=by rw[h.len];exact (Zb.1 hy).1
 have hr:rows[i]?=some rows[i]:=by simp[hi]
 obtain⟨b,o,ha,hc⟩:=R.sl.cell i _ hr;have hR:=h.at' i _ y hr hy
 have he:Sf B w a:=fun _ ad e=>by
  rcases R.own with⟨h0,_⟩ | ⟨b',h1,h2,_,_,c,h3,_⟩
  ·rw[h0] at e;cases e
  ·rw[h1] at e;cases e;exact⟨h2,c,t,h3⟩
 have hb:B<=b:=by
  rcases R.own with⟨h0,_⟩ | ⟨b',h1,h2,_⟩
  ·rw[h0] at ha;cases ha
  ·rw[h1] at ha;cases ha;exact h2
 have c0:=hc 0 _ rfl;have c1:=hc 1 _ rfl;have c2:=hc 2 _ rfl;have c3:=hc 3 _ rfl;refine⟨b,o,rows[i].pa,rows[i].pn,rows[i].pc,ha,?_,?_,?_,c3,hR.its,hR.hd,hb,he⟩
 ·rw[<-hR.id];exact c0
 ·rw[<-hR.nm];exact c1
 ·rw[<-hR.fx];exact c2
end
section
open Go Go.RowKit Go.BigFrame Tryz
variable{B:Nat}{p:Po}{v:Value}{w:World}
def AW (B:Nat)(w:World)(v:Value)(p:Po):Prop:=
 ∃ ea en ec va vn vc ra rn rc la ln lc,v=.agg #[.int .i64 p.size,.int .i64 p.next,.slice ea en ec,.slice va vn vc,.slice ra rn rc,.slice la ln lc]∧
  (BZ w ea en p.ex∧Hd B ea en ec∧Sf B w ea)∧(Bp B w va vn p.vs∧Hd B va vn vc)∧(A8 w ra rn p.rf∧Hd B ra rn rc∧Sf B w ra)∧(A8 w la ln p.lt∧Hd B la ln lc∧Sf B w la)
end
section
open Go Go.RowKit Go.BigFrame Tryz
variable{α:Type}{x:IR}{rs:List IR}{l:List Vo}{B cap i n sz:Nat}{a:Option Addr}{p:Po}{t:TypeId}{r:VR}{v:Value}{y:Vo}{w:World}{cs:α->List Value}
structure Ec (B:Nat)(w:World)(r:IR)(y:It):Prop where
 nm:r.nm=y.nm
 ps:Ad Pt.cs 3 124 w B r.pa r.pn r.pc y.ps
structure A3 (B:Nat)(w:World)(rows:List IR)(l:List It):Prop where
 len:rows.length=l.length
 at':∀ (i:Nat) r y,rows[i]?=some r->l[i]?=some y->Ec B w r y
structure CE (B:Nat)(w:World)(r:VR)(y:Vo):Prop where
 id:r.id=y.id
 nm:r.nm=y.nm
 fx:r.fx=y.fx
 its:∃ rows,Ad irs 2 122 w B r.pa r.pn r.pc rows∧A3 B w rows y.its
structure Bc (B:Nat)(w:World)(rows:List VR)(l:List Vo):Prop where
 len:rows.length=l.length
 at':∀ (i:Nat) r y,rows[i]?=some r->l[i]?=some y->CE B w r y
theorem Ad.sf {l:List α}(h:Ad cs sz t w B a n cap l):Sf B w a:=fun _ ad e=>by
 rcases h.own with⟨h0,_⟩ | ⟨b',h1,h2,_,_,c,h3,_⟩
 ·rw[h0] at e;cases e
 ·rw[h1] at e;cases e;exact⟨h2,c,t,h3⟩
theorem Ad.hd {l:List α}(h:Ad cs sz t w B a n cap l):Hd B a n cap:=by
 rcases h.own with⟨rfl,rfl,rfl⟩ | ⟨b',rfl,h2,h3,h4,_⟩
 ·exact⟨Zd _,by omega,fun _=>⟨fun _=>rfl,fun ad e=>by cases e⟩⟩
 ·exact⟨h3,by unfold maxLen at h4;omega,fun _=>⟨(fun e=>by cases e),fun ad e=>by cases e;rfl⟩⟩
theorem A3.rows {rows:List IR}{l:List It}(h:A3 B w rows l):Ef B w rows l:=⟨h.len,fun i r y h1 h2=>by
 have h':=h.at' i r y h1 h2;exact⟨h'.nm,h'.ps.sl,h'.ps.hd,fun ad e=>(h'.ps.block ad e).1,fun ad e=>(h'.ps.block ad e).2,h'.ps.sf⟩⟩
theorem Bc.rows {rows:List VR}(h:Bc B w rows l):Eg B w rows l:=⟨h.len,fun i r y h1 h2=>by
 obtain⟨e1,e2,e3,rs,R,T⟩:=h.at' i r y h1 h2;exact⟨e1,e2,e3,T.rows.its R,R.hd⟩⟩
def Ag (B:Nat)(w:World)(v:Value)(p:Po):Prop:=
 ∃ ea en ec va vn vc ra rn rc la ln lc rows,v=.agg #[.int .i64 p.size,.int .i64 p.next,.slice ea en ec,.slice va vn vc,.slice ra rn rc,.slice la ln lc]∧
  Ad Ex.cs 2 77 w B ea en ec p.ex∧(Ad vrs 4 80 w B va vn vc rows∧Bc B w rows p.vs)∧Ad Ct.cs 4 68 w B ra rn rc p.rf∧Ad Ct.cs 4 68 w B la ln lc p.lt∧(∀ x y,ra=some x->la=some y->0<rc->0<lc->x.block≠y.block)
theorem Ag.at' (h:Ag B w v p):AW B w v p:=by
 obtain⟨ea,en,ec,va,vn,vc,ra,rn,rc,la,ln,lc,rows,hv,h1,⟨h2,h3⟩,h4,h5,h6⟩:=h;exact⟨ea,en,ec,va,vn,vc,ra,rn,rc,la,ln,lc,hv,⟨h1.sl,h1.hd,h1.sf⟩,⟨h3.rows.vs h2,h2.hd⟩,⟨h4.sl,h4.hd,h4.sf⟩,h5.sl,h5.hd,h5.sf⟩
theorem bL_ (h:Ap p=true):p.vs.length<=6∧vgo p.next p.ex 0 p.vs=true∧p.next<=1000000000∧Am p.size p.ex=true∧(p.vs.map (·.nm.toList)).Nodup:=by
 simp only[Ap,EM,Ep,Zf,ZU] at h;exact⟨h.1.1.1.2.1,h.1.1.1.2.2,h.1.1.1.1.2,h.1.1.1.1.1.1,h.1.1.2⟩
end
section
open Go Go.RowKit Go.BigFrame Tryz
variable{α:Type}{l:List Vo}{B b i n:Nat}{a:Option Addr}{p:Po}{v:Value}{w w':World}{x:α}
theorem Bp.grown {r:Nat}(h:Bp B w a n l)(hg:w.grownBy w' (some r))(hr:r<B):Bp B w' a n l:=
 ⟨h.len,fun i x hx=>by
  obtain⟨b,o,pa,pn,pc,ha,c0,c1,c2,c3,hp,hh,hB,s2⟩:=h.cell i x hx;exact⟨b,o,pa,pn,pc,ha,hg.cell c0 (by simp;omega),hg.cell c1 (by simp;omega),hg.cell c2 (by simp;omega),hg.cell c3 (by simp;omega),hp.grown hg hr,hh,hB,s2.grown hg hr⟩⟩
theorem AW.below (h:AW B w v p)(hb:Below w.heap.size w w'):AW B w' v p:=by
 obtain⟨ea,en,ec,va,vn,vc,ra,rn,rc,la,ln,lc,hv,⟨h1,k1⟩,⟨h2,k2⟩,⟨h3,k3⟩,h4,k4⟩:=h;exact⟨ea,en,ec,va,vn,vc,ra,rn,rc,la,ln,lc,hv,⟨h1.below hb,k1.1,k1.2.below hb⟩,⟨h2.below hb,k2⟩,⟨h3.below hb,k3.1,k3.2.below hb⟩,h4.below hb,k4.1,k4.2.below hb⟩
theorem AW.mono {B':Nat}(h:AW B w v p)(hb:B'<=B):AW B' w v p:=by
 obtain⟨ea,en,ec,va,vn,vc,ra,rn,rc,la,ln,lc,hv,⟨h1,k1⟩,⟨h2,k2⟩,⟨h3,k3⟩,h4,k4⟩:=h;exact⟨ea,en,ec,va,vn,vc,ra,rn,rc,la,ln,lc,hv,⟨h1,k1.1.mono hb,k1.2.mono hb⟩,⟨h2.mono hb,k2.mono hb⟩,⟨h3,k3.1.mono hb,k3.2.mono hb⟩,h4,k4.1.mono hb,k4.2.mono hb⟩
end
section
open Go Go.RowKit Go.BigFrame Tryz
variable{α:Type}{y:It}{L:List Ct}{l:List Vo}{B M cap i n:Nat}{a:Option Addr}{out:Value}{w w':World}{x:α}{cs:α->List Value}
variable{rows:List IR}
variable{r:IR}
theorem Kn.below (h:Kn B w r y)(hb:Below w.heap.size w w'):Kn B w' r y:=
 ⟨h.nm,h.ps.below hb,h.hd,h.ge,fun ad e=>Zy (h.lt ad e) hb.size,h.sf.below hb⟩
theorem Ef.nil (B:Nat)(w:World):Ef B w [] []:=⟨rfl,fun i r y h=>by simp at h⟩
theorem Ef.below {l:List It}(h:Ef B w rows l)(hb:Below w.heap.size w w'):Ef B w' rows l:=⟨h.len,fun i r y h1 h2=>(h.at' i r y h1 h2).below hb⟩
theorem Ko.below {r:VR}{y:Vo}(h:Ko B w r y)(hb:Below w.heap.size w w'):Ko B w' r y:=⟨h.id,h.nm,h.fx,h.its.below hb,h.hd⟩
theorem Eg.nil (B:Nat)(w:World):Eg B w [] []:=⟨rfl,fun i r y h=>by simp at h⟩
theorem Eg.below {rows:List VR}(h:Eg B w rows l)(hb:Below w.heap.size w w'):Eg B w' rows l:=⟨h.len,fun i r y h1 h2=>(h.at' i r y h1 h2).below hb⟩
structure Fnd (w:World)(B:Nat)(out:Value)(L:List Ct)(M:Nat):Prop where
 at':∃ a n cap,out=.slice a n cap∧n<=M∧Ad Ct.cs 4 68 w B a n cap L
 bd:∀ x∈L,-(1000*(M:Int))<=x.n∧x.n<=1000*(M:Int)
theorem Fnd.below (h:Fnd w B out L M)(hb:Below w.heap.size w w'):Fnd w' B out L M:=by
 obtain⟨⟨a,n,cap,e,hn,R⟩,ha⟩:=h;exact⟨⟨a,n,cap,e,hn,R.below hb⟩,ha⟩
theorem Fnd.mono {M':Nat}(h:Fnd w B out L M)(hM:M<=M'):Fnd w B out L M':=by
 obtain⟨⟨a,n,cap,e,hn,R⟩,ha⟩:=h;exact⟨⟨a,n,cap,e,by omega,R⟩,fun x hx=>by have:=ha x hx;omega⟩
end
section
open Go Go.RowKit Go.BigFrame Tryz
variable{α β:Type}{l:List Vo}{B B' i k:Nat}{p:Po}{r:VR}{v:Value}{y:Vo}{w w':World}
theorem Ec.below {r:IR}{y:It}(h:Ec B w r y)(hb:Below w.heap.size w w'):Ec B w' r y:=⟨h.nm,h.ps.below hb⟩
theorem A3.below {rows:List IR}{l:List It}(h:A3 B w rows l)(hb:Below w.heap.size w w'):A3 B w' rows l:=⟨h.len,fun i r y h1 h2=>(h.at' i r y h1 h2).below hb⟩
theorem CE.below (h:CE B w r y)(hb:Below w.heap.size w w'):CE B w' r y:=by
 obtain⟨h1,h2,h3,rows,R,T⟩:=h;exact⟨h1,h2,h3,rows,R.below hb,T.below hb⟩
theorem Bc.below {rows:List VR}(h:Bc B w rows l)(hb:Below w.heap.size w w'):Bc B w' rows l:=⟨h.len,fun i r y h1 h2=>(h.at' i r y h1 h2).below hb⟩
theorem Ec.mono {r:IR}{y:It}(h:Ec B w r y)(hb:B'<=B):Ec B' w r y:=⟨h.nm,h.ps.mono hb⟩
theorem A3.mono {rows:List IR}{l:List It}(h:A3 B w rows l)(hb:B'<=B):A3 B' w rows l:=⟨h.len,fun i r y h1 h2=>(h.at' i r y h1 h2).mono hb⟩
theorem CE.mono (h:CE B w r y)(hb:B'<=B):CE B' w r y:=by
 obtain⟨h1,h2,h3,rows,R,T⟩:=h;exact⟨h1,h2,h3,rows,R.mono hb,T.mono hb⟩
theorem Bc.mono {rows:List VR}(h:Bc B w rows l)(hb:B'<=B):Bc B' w rows l:=⟨h.len,fun i r y h1 h2=>(h.at' i r y h1 h2).mono hb⟩
theorem A3.nil (B:Nat)(w:World):A3 B w [] []:=⟨rfl,fun i r y h=>by simp at h⟩
theorem Bc.nil (B:Nat)(w:World):Bc B w [] []:=⟨rfl,fun i r y h=>by simp at h⟩
theorem Ag.below (h:Ag B w v p)(hb:Below w.heap.size w w'):Ag B w' v p:=by
 obtain⟨ea,en,ec,va,vn,vc,ra,rn,rc,la,ln,lc,rows,hv,h1,⟨h2,h3⟩,h4,h5,h6⟩:=h;exact⟨ea,en,ec,va,vn,vc,ra,rn,rc,la,ln,lc,rows,hv,h1.below hb,⟨h2.below hb,h3.below hb⟩,h4.below hb,h5.below hb,h6⟩
theorem Ag.mono (h:Ag B w v p)(hb:B'<=B):Ag B' w v p:=by
 obtain⟨ea,en,ec,va,vn,vc,ra,rn,rc,la,ln,lc,rows,hv,h1,⟨h2,h3⟩,h4,h5,h6⟩:=h;exact⟨ea,en,ec,va,vn,vc,ra,rn,rc,la,ln,lc,rows,hv,h1.mono hb,⟨h2.mono hb,h3.mono hb⟩,h4.mono hb,h5.mono hb,h6⟩
theorem mB_ {R:α->β->Prop}{rows:List α}{l:List β}{r:α}{y:β}(h:∀ (i:Nat) r y,rows[i]?=some r->l[i]?=some y->R r y)(h':R r y):∀ (i:Nat) q z,(rows.set k r)[i]?=some q->(l.set k y)[i]?=some z->R q z:=by
 intro i q z h1 h2;by_cases hi:k=i
 ·subst hi;have e1:=(Zb.1 h1).1;have e2:=(Zb.1 h2).1;rw[List.length_set] at e1 e2;rw[Zx e1] at h1;rw[Zx e2] at h2
  cases h1;cases h2
  exact h'
 ·rw[ZJ hi] at h1 h2;exact h i q z h1 h2
theorem Bc.set {rows:List VR}(k:Nat)(h:Bc B w rows l)(h':CE B w r y):Bc B w (rows.set k r) (l.set k y):=⟨by simp[h.len],mB_ h.at' h'⟩
end
section
open Go Go.RowKit Go.BigFrame Tryz
variable{α:Type}{l:List Vo}{j k:Nat}{a:Option Addr}{p:Po}{v:Value}{x:α}
def Gc (l:List Vo):Prop:=l.length<=6∧∀ v∈l,v.its.length<=5∧∀ x∈v.its,x.ps.length<=16∧∀ p∈x.ps,0<=p.a
theorem gI_ {id:Int}{nm:ByteArray}{ps:List Pt}{p:Pt}(h:ps[j]?=some p):AU id nm (ps.take (j+1))=AU id nm (ps.take j)++(if p.a==0 then [] else [⟨⟨p.a,id,nm⟩,1⟩]):=by
 unfold AU;rw[bx_ h,YR,List.map_append]
 cases hp:(p.a==0)<;>simp[hp]
def BK (v:Vo)(l:List It):List Ct:=l.flatMap (fun x=>AU v.id x.nm x.ps)
theorem fq_ {v:Vo}{l:List It}{x:It}(h:l[k]?=some x):BK v (l.take (k+1))=BK v (l.take k)++AU v.id x.nm x.ps:=by
 unfold BK;rw[bx_ h,ZQ];simp
end
section
open Go.RowKit Go.BigFrame Go.Lib Tryz
variable{e:Nat}
def Km (e:Ending):Option ByteArray->Prop
 |none=>e=.returned (.tuple #[.string ⟨#[]⟩,.bool false])
 |some s=>e=.returned (.tuple #[.string s,.bool true])
theorem Me:(prog.info? 5).map (fun i=>(i.zero,i.size,i.bytes))=some (some (.int .u8 0),1,1):=by kernel_rfl
end
section
open Go Go.RowKit Go.BigFrame Tryz
def CO (l:List It)(k:Nat):Option It:=if k=0 then none else l[k-1]?
theorem hB_ (l:List It)(k:Nat):CO l (k+1)=l[k]?:=by simp[CO]
end
section
open Go Go.RowKit
variable{next:Int}{e:List Ex}
theorem db_:∀ {l:List It} {q:Option It},igo e q l=true->∀ x∈l,(AP x.ps e).isSome=true
 |[],_,_,x,hx=>by cases hx
 |y::r,q,h,x,hx=>by
  simp only[igo,Zf] at h;rcases Zn.1 hx with rfl | hx
  ·exact h.1.2
  ·exact db_ h.2 x hx
theorem b0_:∀ {l:List Vo} {last:Int},vgo next e last l=true->∀ v∈l,itemsB v.its e=true∧nameB v.nm=true∧last<v.id∧v.id<next
 |[],_,_,v,hv=>by cases hv
 |u::r,last,h,v,hv=>by
  simp only[vgo,Zf,ZU] at h;rcases Zn.1 hv with rfl | hv
  ·exact⟨h.1.2,h.1.1.2,h.1.1.1.1,h.1.1.1.2⟩
  ·have:=b0_ h.2 v hv
   exact⟨this.1,this.2.1,by omega,this.2.2.2⟩
theorem cT_ {p:Pt}(h:Ao p=true):0<=p.a:=by
 unfold Ao at h;split at h
 ·rename_i h0;simp at h0;omega
 ·simp at h;omega
theorem g2_ {l:List Vo}{last:Int}(h6:l.length<=6)(h:vgo next e last l=true):Gc l:=by
 refine⟨h6,fun v hv=>?_⟩;obtain⟨hi,_⟩:=b0_ h v hv;simp only[itemsB,Zf,ZU] at hi;refine⟨hi.1,fun x hx=>?_⟩;have hc:=db_ hi.2 x hx
 have hp:Ae x.ps=true:=by
  unfold AP at hc;split at hc
  ·rename_i hh;exact hh.1
  ·cases hc
 obtain⟨q1,q2,_⟩:=ae_ hp;exact⟨q1,fun p ha=>cT_ (q2 p ha)⟩
end
section
open Go Go.RowKit Go.BigFrame Tryz
variable{n:Nat}{a:Option Addr}{p:Po}{v:Value}{w:World}
theorem pn_ (p q:Ow)(w:World):(Op.equalIn 9999 66 (.agg #[.int .i64 p.a,.int .i64 p.v,.string p.f]) (.agg #[.int .i64 q.a,.int .i64 q.v,.string q.f])).run prog w=.ok (BV p q) w:=by
 have u2:=underlying2;have u9:=underlying9;have a2:=Tryz.isAgg2;have a9:=Tryz.isAgg9;have z2:=Tryz.sizeOf2;have z9:=Tryz.sizeOf9;have hS:prog.underlying 66=some (.struct (prog.fieldsOf 66)):=by kernel_rfl
 have hp:prog.stoodInHeld 66=false:=by kernel_rfl
 rw[show (9999:Nat)=9998+1 from rfl,run_equalIn_agg w 9998 66 _ _ hS hp];simp only[Program.fieldsOf,underlying66];clear hS hp;go_simp;unfold BV;by_cases h1:p.a=q.a<;>by_cases h2:p.v=q.v<;>by_cases h3:p.f.toList=q.f.toList<;>simp[h1,h2,h3]
theorem Mg (p q:Ct)(w:World):(binOp .neq 68 (.agg #[.int .i64 p.o.a,.int .i64 p.o.v,.string p.o.f,.int .i64 p.n]) (.agg #[.int .i64 q.o.a,.int .i64 q.o.v,.string q.o.f,.int .i64 q.n])).run prog w=.ok (.bool (!KD p q)) w:=by
 have he:=pn_ p.o q.o;have u2:=underlying2;have a2:=Tryz.isAgg2;have z2:=Tryz.sizeOf2;have hz:=Tryz.sizeOf66;have ha:=Tryz.isAgg66;have hS:prog.underlying 68=some (.struct (prog.fieldsOf 68)):=by kernel_rfl
 have hp:prog.stoodInHeld 68=false:=by kernel_rfl
 rw[run_neq_struct,show (10000:Nat)=9999+1 from rfl,run_equalIn_agg w 9999 68 _ _ hS hp];simp only[Program.fieldsOf,underlying68];clear hS hp;unfold KD
 cases hb:BV p.o q.o
 all_goals rw[hb] at he
 ·go_simp
 ·by_cases h1:p.n=q.n
  ·go_simp
  ·go_simp
def AJ (p:Po):Prop:=p.ex.length<=4194304∧Dt p.ex∧p.vs.length<=4194304∧JR p.vs∧p.rf.length<=4194304∧Co p.rf∧p.lt.length<=4194304∧Co p.lt
end
section
open Go Go.RowKit Go.BigFrame Tryz
variable{α:Type}{c:Array Value}{y:It}{l:List Vo}{B b cap i j k n sz:Nat}{a:Option Addr}{row:Option Nat}{t t':TypeId}{v:Value}{w w':World}{x:α}{cs:α->List Value}
variable{rows:List IR}
variable{r:IR}
theorem Ef.snoc {l:List It}(h:Ef B w rows l)(h':Kn B w r y):Ef B w (rows++[r]) (l++[y]):=by
 refine⟨by simp[h.len],fun i q z h1 h2=>?_⟩;by_cases hi:i<rows.length
 ·rw[ZD hi] at h1;rw[ZD (by rw[<-h.len];exact hi)] at h2;exact h.at' i q z h1 h2
 ·rw[Zv (by omega)] at h1;rw[Zv (by rw[<-h.len];omega)] at h2;have h0:i-rows.length=0:=by have:=(Zb.1 h1).1;simp at this;omega
  rw[h0] at h1;rw[<-h.len,h0] at h2;simp at h1 h2;subst h1 h2;exact h'
theorem Eg.snoc {rows:List VR}{r:VR}{y:Vo}(h:Eg B w rows l)(h':Ko B w r y):Eg B w (rows++[r]) (l++[y]):=by
 refine⟨by simp[h.len],fun i q z h1 h2=>?_⟩;by_cases hi:i<rows.length
 ·rw[ZD hi] at h1;rw[ZD (by rw[<-h.len];exact hi)] at h2;exact h.at' i q z h1 h2
 ·rw[Zv (by omega)] at h1;rw[Zv (by rw[<-h.len];omega)] at h2;have h0:i-rows.length=0:=by have:=(Zb.1 h1).1;simp at this;omega
  rw[h0] at h1;rw[<-h.len,h0] at h2;simp at h1 h2;subst h1 h2;exact h'
theorem kb_ {l:List α}(h:AX cs sz w a n l)(hg:w.grownBy w' row)(hr:∀ ad,a=some ad->some ad.block≠row):AX cs sz w' a n l:=by
 refine⟨h.len,fun i x hx=>?_⟩;obtain⟨b,o,ha,hc⟩:=h.cell i x hx;exact⟨b,o,ha,fun j v hv=>hg.cell (hc j v hv) (hr ⟨b,o,none⟩ ha)⟩
theorem kc_ {c':Array Value}(h:Blk w b c t)(h':Blk w b c' t'):t=t':=by
 unfold Blk at h h';rw[h] at h';injection h' with e;injection e
def BF (w:World)(row:Option Nat)(t:TypeId):Prop:=∀ k,row=some k->∃ c,Blk w k c t
theorem aa_ (h:Blk w b c t):BF w (some b) t:=fun k e=>by cases e;exact⟨c,h⟩
theorem Ad.rowTy {l:List α}(h:Ad cs sz t w B a n cap l){m:Nat}:BF w (Value.ownBlock (.slice a m k)) t:=by
 rcases h.own with⟨rfl,_⟩ | ⟨b,rfl,_,_,_,c,hc,_⟩
 ·intro k e;simp[Value.ownBlock] at e
 ·intro k e;simp[Value.ownBlock] at e;subst e;exact⟨c,hc⟩
theorem Ad.off {l:List α}(h:Ad cs sz t w B a n cap l)(hg:w.grownBy w' row)(hr:∀ ad,a=some ad->some ad.block≠row):Ad cs sz t w' B a n cap l:=by
 refine⟨kb_ h.sl hg hr,?_⟩;rcases h.own with h0 | ⟨b,ha,hB,h1,h2,c,hc,q⟩
 ·exact .inl h0
 ·exact .inr ⟨b,ha,hB,h1,h2,c,(hg.block _ hc.lt (hr _ ha)).trans hc,q⟩
theorem Ad.ty {l:List α}(h:Ad cs sz t w B a n cap l)(hg:w.grownBy w' row)(hr:BF w row t')(ht:t≠t'):Ad cs sz t w' B a n cap l:=by
 refine h.off hg (fun ad e hc=>?_);obtain⟨c',h'⟩:=hr _ hc.symm;rcases h.own with⟨h0,_⟩ | ⟨b,ha,_,_,_,c,hb,_⟩
 ·rw[h0] at e;cases e
 ·rw[ha] at e;cases e;exact ht (kc_ hb h')
theorem Blk.ty (h:Blk w b c t)(hg:w.grownBy w' row)(hr:BF w row t')(ht:t≠t'):Blk w' b c t:=by
 refine (hg.block _ h.lt (fun e=>?_)).trans h;obtain⟨c',h'⟩:=hr _ e.symm;exact ht (kc_ h h')
end
section
open Go Go.RowKit Go.BigFrame Tryz
variable{α β:Type}{l:List Vo}{B i:Nat}{row:Option Nat}{t':TypeId}{r:VR}{y:Vo}{w w':World}
theorem A3.ty {rows:List IR}{l:List It}(h:A3 B w rows l)(hg:w.grownBy w' row)(hr:BF w row t')(ht:(124:TypeId)≠t'):A3 B w' rows l:=⟨h.len,fun i r y h1 h2=>⟨(h.at' i r y h1 h2).nm,(h.at' i r y h1 h2).ps.ty hg hr ht⟩⟩
theorem CE.ty (h:CE B w r y)(hg:w.grownBy w' row)(hr:BF w row t')(ht:(124:TypeId)≠t')(ht':(122:TypeId)≠t'):CE B w' r y:=by
 obtain⟨h1,h2,h3,rows,R,T⟩:=h;exact⟨h1,h2,h3,rows,R.ty hg hr ht',T.ty hg hr ht⟩
theorem Bc.ty {rows:List VR}(h:Bc B w rows l)(hg:w.grownBy w' row)(hr:BF w row t')(ht:(124:TypeId)≠t')(ht':(122:TypeId)≠t'):Bc B w' rows l:=⟨h.len,fun i r y h1 h2=>(h.at' i r y h1 h2).ty hg hr ht ht'⟩
theorem kl_ {R:α->β->Prop}{rows:List α}{l:List β}{r:α}{y:β}(hl:rows.length=l.length)(h:∀ (i:Nat) r y,rows[i]?=some r->l[i]?=some y->R r y)(h':R r y):∀ (i:Nat) q z,(rows++[r])[i]?=some q->(l++[y])[i]?=some z->R q z:=by
 intro i q z h1 h2;by_cases hi:i<rows.length
 ·rw[ZD hi] at h1;rw[ZD (by rw[<-hl];exact hi)] at h2;exact h i q z h1 h2
 ·rw[Zv (by omega)] at h1;rw[Zv (by rw[<-hl];omega)] at h2;have h0:i-rows.length=0:=by have:=(Zb.1 h1).1;simp at this;omega
  rw[h0] at h1;rw[<-hl,h0] at h2;simp at h1 h2;subst h1 h2;exact h'
theorem A3.snoc {rows:List IR}{l:List It}{r:IR}{y:It}(h:A3 B w rows l)(h':Ec B w r y):A3 B w (rows++[r]) (l++[y]):=⟨by simp[h.len],kl_ h.len h.at' h'⟩
theorem Bc.snoc {rows:List VR}(h:Bc B w rows l)(h':CE B w r y):Bc B w (rows++[r]) (l++[y]):=⟨by simp[h.len],kl_ h.len h.at' h'⟩
end
end Go.Proofs.YtkiceokhlceciaaGreatDoor
