/- The laws' comparisons of lists of items and volumes, where they are the same. -/
import Derived.Test.YtbbhcnjhohidnaaGreatDoorV06
set_option maxHeartbeats 20000000
set_option maxRecDepth 100000
namespace Go.Proofs.YtbbhcnjhohidnaaGreatDoor
section
open Go Go.RowKit Go.BigFrame Tryz
variable{α:Type}{L:List Ct}{l:List Vo}{B b i n:Nat}{a:Option Addr}{p:Po}{t:TypeId}{v:Value}{w w':World}{x:α}
theorem VsAt.grown {r:Nat}(h:VsAt B w a n l)(hg:w.grownBy w' (some r))(hr:r<B):VsAt B w' a n l:=
 ⟨h.len,fun i x hx=>by
  obtain⟨b,o,pa,pn,pc,ha,c0,c1,c2,c3,hp,hh,hB,s2⟩:=h.cell i x hx;exact⟨b,o,pa,pn,pc,ha,hg.cell c0 (by simp;omega),hg.cell c1 (by simp;omega),hg.cell c2 (by simp;omega),hg.cell c3 (by simp;omega),hp.grown hg hr,hh,hB,s2.grown hg hr⟩⟩
def PoolAt (B:Nat)(w:World)(v:Value)(p:Po):Prop:=
 ∃ ea en ec va vn vc ra rn rc la ln lc,v=.agg #[.int .i64 p.size,.int .i64 p.next,.slice ea en ec,.slice va vn vc,.slice ra rn rc,.slice la ln lc]∧
  (ExsAt w ea en p.ex∧Hd B ea en ec∧Sf B w ea)∧(VsAt B w va vn p.vs∧Hd B va vn vc)∧(CtsAt w ra rn p.rf∧Hd B ra rn rc∧Sf B w ra)∧(CtsAt w la ln p.lt∧Hd B la ln lc∧Sf B w la)
theorem PoolAt.below (h:PoolAt B w v p)(hb:Below w.heap.size w w'):PoolAt B w' v p:=by
 obtain⟨ea,en,ec,va,vn,vc,ra,rn,rc,la,ln,lc,hv,⟨h1,k1⟩,⟨h2,k2⟩,⟨h3,k3⟩,h4,k4⟩:=h;exact⟨ea,en,ec,va,vn,vc,ra,rn,rc,la,ln,lc,hv,⟨h1.below hb,k1.1,k1.2.below hb⟩,⟨h2.below hb,k2⟩,⟨h3.below hb,k3.1,k3.2.below hb⟩,h4.below hb,k4.1,k4.2.below hb⟩
theorem PoolAt.mono {B':Nat}(h:PoolAt B w v p)(hb:B'<=B):PoolAt B' w v p:=by
 obtain⟨ea,en,ec,va,vn,vc,ra,rn,rc,la,ln,lc,hv,⟨h1,k1⟩,⟨h2,k2⟩,⟨h3,k3⟩,h4,k4⟩:=h;exact⟨ea,en,ec,va,vn,vc,ra,rn,rc,la,ln,lc,hv,⟨h1,k1.1.mono hb,k1.2.mono hb⟩,⟨h2.mono hb,k2.mono hb⟩,⟨h3,k3.1.mono hb,k3.2.mono hb⟩,h4,k4.1.mono hb,k4.2.mono hb⟩
def BigP (p:Po):Prop:=p.ex.length<=9223372036854775807∧Strs p.ex∧p.vs.length<=9223372036854775807∧BigV p.vs∧p.rf.length<=9223372036854775807∧StrC p.rf∧p.lt.length<=9223372036854775807∧StrC p.lt
def SmallP (p:Po):Prop:=Small p.ex.length p.ex∧SmallV p.vs.length p.vs∧SmallC p.rf.length p.rf∧SmallC p.lt.length p.lt
theorem jl_ (B:Nat)(v:Value)(p:Po)(L:Int)(w:World)(h:PoolAt B w v p)(hb:BigP p)(hL0:0<=L)(hL:L<=1048576):
  Calls prog 5 #[v,.int .i64 L] w fun e w'=>(∃ r:Int,e=.returned (.int .i64 r)∧(r=-1∨(0<=r∧r<=1048576∧SmallP p)))∧Below w.heap.size w w':=by
 obtain⟨ea,en,ec,va,vn,vc,ra,rn,rc,la,ln,lc,rfl,⟨h1,k1⟩,⟨h2,k2⟩,⟨h3,k3⟩,h4,k4⟩:=h;obtain⟨z1,z2,z3,z4,z5,z6,z7,z8⟩:=hb;rw[h1.len] at z1;rw[h2.len] at z3;rw[h3.len] at z5;rw[h4.len] at z7;unfold SmallP;rw[h1.len,h2.len,h3.len,h4.len];obtain⟨size,next,ex,vs,rf,lt⟩:=p;simp only at *;go_enter func5,ntmps5
 go_wp2_with fail
 refine (hi_ ea en ec ex L _ (h1.below (by go_grown)) z2 z1 hL0 hL).mono ?_;rintro e w1 ⟨⟨r,rfl,hr⟩,hc⟩;have C:Blk w1 w.heap.size _ _:=(Blk.new w _ _).below hc;replace hc:Below w.heap.size w w1:=chain (by go_grown) hc;rcases hr with rfl | ⟨r0,r1,r2⟩
 ·go_wp2;go_returns;exact⟨⟨-1,rfl,.inl rfl⟩,hc⟩
 ·have c3:=C.cell 3;simp only[lgA,lgB,lgC] at c3
  go_wp2_with fail
  refine (hx_ B va vn vc vs r _ (h2.below hc) z4 z3 (by omega) (by omega)).mono ?_;rintro e w2 ⟨⟨q,rfl,hq⟩,he⟩;replace C:=C.below he;replace he:=chain hc he;clear c3;rcases hq with rfl | ⟨q0,q1,q2⟩
  ·go_wp2;go_returns;exact⟨⟨-1,rfl,.inl rfl⟩,he⟩
  ·have c4:=C.cell 4;simp only[lgA,lgB,lgC] at c4
   go_wp2_with fail
   refine (d1_ ra rn rc rf q _ (h3.below he) z6 z5 (by omega) (by omega)).mono ?_;rintro e w3 ⟨⟨s,rfl,hs⟩,ha⟩;replace C:=C.below ha;replace ha:=chain he ha;clear c4;rcases hs with rfl | ⟨s0,s1,s2⟩
   ·go_wp2;go_returns;exact⟨⟨-1,rfl,.inl rfl⟩,ha⟩
   ·have c5:=C.cell 5;simp only[lgA,lgB,lgC] at c5
    go_wp2_with fail
    refine (d1_ la ln lc lt s _ (h4.below ha) z8 z7 (by omega) (by omega)).mono ?_;rintro e w4 ⟨⟨t,rfl,ht⟩,hf⟩;replace hf:=chain ha hf;clear c5;rcases ht with rfl | ⟨t0,t1,t2⟩
    ·go_wp2;go_returns;exact⟨⟨-1,rfl,.inl rfl⟩,hf⟩
    ·go_wp2;go_returns;exact⟨⟨t,rfl,.inr ⟨t0,t1,r2,q2,s2,t2⟩⟩,hf⟩
theorem ka_ (B:Nat)(v:Value)(p:Po)(w:World)(h:PoolAt B w v p)(hb:BigP p):
  Calls prog 5 #[v,.int .i64 1048576] w fun e w'=>(∃ r:Int,e=.returned (.int .i64 r)∧(r=-1∨(0<=r∧r<=1048576∧SmallP p)))∧Below w.heap.size w w':=jl_ B v p 1048576 w h hb (by omega) (by omega)
structure IR where
 nm:ByteArray
 pa:Option Addr
 pn:Nat
 pc:Nat
end
section
open Go Go.RowKit Go.BigFrame Tryz
variable{α:Type}{c:Array Value}{y:It}{L:List Ct}{l:List Vo}{B M b cap i j k n sz:Nat}{a:Option Addr}{row:Option Nat}{p:Po}{t t':TypeId}{out v:Value}{w w':World}{x x':α}{cs:α->List Value}
variable{rows:List IR}
variable{r:IR}
structure VR where
 id:Int
 nm:ByteArray
 fx:Bool
 pa:Option Addr
 pn:Nat
 pc:Nat
def irs (r:IR):List Value:=[.string r.nm,.slice r.pa r.pn r.pc]
def vrs (r:VR):List Value:=[.int .i64 r.id,.string r.nm,.bool r.fx,.slice r.pa r.pn r.pc]
theorem aI_ (r:IR):(irs r).length=2:=rfl
theorem a2_ (r:VR):(vrs r).length=4:=rfl
theorem eP_ (l:List IR):∀ u∈l.flatMap irs,u.oneCell'=true:=by
 intro u hu;obtain⟨p,_,hp⟩:=ZL.1 hu;simp[irs] at hp;rcases hp with rfl | rfl<;>rfl
theorem pm_ (l:List VR):∀ u∈l.flatMap vrs,u.oneCell'=true:=by
 intro u hu;obtain⟨p,_,hp⟩:=ZL.1 hu;simp[vrs] at hp;rcases hp with rfl | rfl | rfl | rfl<;>rfl
structure RowI (B:Nat)(w:World)(r:IR)(y:It):Prop where
 nm:r.nm=y.nm
 ps:PtsAt w r.pa r.pn y.ps
 hd:Hd B r.pa r.pn r.pc
 ge:∀ ad,r.pa=some ad->B<=ad.block
 lt:∀ ad,r.pa=some ad->ad.block<w.heap.size
 sf:Sf B w r.pa
theorem RowI.below (h:RowI B w r y)(hb:Below w.heap.size w w'):RowI B w' r y:=
 ⟨h.nm,h.ps.below hb,h.hd,h.ge,fun ad e=>Zy (h.lt ad e) hb.size,h.sf.below hb⟩
structure RowsI (B:Nat)(w:World)(rows:List IR)(l:List It):Prop where
 len:rows.length=l.length
 at':∀ (i:Nat) r y,rows[i]?=some r->l[i]?=some y->RowI B w r y
theorem RowsI.nil (B:Nat)(w:World):RowsI B w [] []:=⟨rfl,fun i r y h=>by simp at h⟩
theorem RowsI.below {l:List It}(h:RowsI B w rows l)(hb:Below w.heap.size w w'):RowsI B w' rows l:=⟨h.len,fun i r y h1 h2=>(h.at' i r y h1 h2).below hb⟩
theorem RowsI.snoc {l:List It}(h:RowsI B w rows l)(h':RowI B w r y):RowsI B w (rows++[r]) (l++[y]):=by
 refine⟨by simp[h.len],fun i q z h1 h2=>?_⟩;by_cases hi:i<rows.length
 ·rw[ZD hi] at h1;rw[ZD (by rw[<-h.len];exact hi)] at h2;exact h.at' i q z h1 h2
 ·rw[Zv (by omega)] at h1;rw[Zv (by rw[<-h.len];omega)] at h2;have h0:i-rows.length=0:=by have:=(Zb.1 h1).1;simp at this;omega
  rw[h0] at h1;rw[<-h.len,h0] at h2;simp at h1 h2;subst h1 h2;exact h'
theorem RowsI.its {l:List It}(R:ResAt irs 2 t w B a n cap rows)(h:RowsI B w rows l):ItsAt B w a n l:=by
 refine⟨by rw[<-h.len];exact R.sl.len,fun i y hy=>?_⟩;have hi:i<rows.length:=by rw[h.len];exact (Zb.1 hy).1
 have hr:rows[i]?=some rows[i]:=by simp[hi]
 obtain⟨b,o,ha,hc⟩:=R.sl.cell i _ hr;have hR:=h.at' i _ y hr hy
 have he:Sf B w a:=fun _ ad e=>by
  rcases R.own with⟨h0,_⟩ | ⟨b',h1,h2,_,_,c,h3,_⟩
  ·rw[h0] at e;cases e
  ·rw[h1] at e;cases e;exact⟨h2,c,t,h3⟩
 have hb:B<=b:=by
  rcases R.own with⟨h0,_⟩ | ⟨b',h1,h2,_⟩
  ·rw[h0] at ha;cases ha
  ·rw[h1] at ha;cases ha;exact h2
 refine⟨b,o,rows[i].pa,rows[i].pn,rows[i].pc,ha,?_,hc 1 _ rfl,hR.ps,hR.hd,hb,hR.ge,hR.sf,he⟩
 have:=hc 0 _ rfl
 rw[<-hR.nm];exact this
structure RowV (B:Nat)(w:World)(r:VR)(y:Vo):Prop where
 id:r.id=y.id
 nm:r.nm=y.nm
 fx:r.fx=y.fx
 its:ItsAt B w r.pa r.pn y.its
 hd:Hd B r.pa r.pn r.pc
theorem RowV.below {r:VR}{y:Vo}(h:RowV B w r y)(hb:Below w.heap.size w w'):RowV B w' r y:=⟨h.id,h.nm,h.fx,h.its.below hb,h.hd⟩
structure RowsV (B:Nat)(w:World)(rows:List VR)(l:List Vo):Prop where
 len:rows.length=l.length
 at':∀ (i:Nat) r y,rows[i]?=some r->l[i]?=some y->RowV B w r y
theorem RowsV.nil (B:Nat)(w:World):RowsV B w [] []:=⟨rfl,fun i r y h=>by simp at h⟩
theorem RowsV.below {rows:List VR}(h:RowsV B w rows l)(hb:Below w.heap.size w w'):RowsV B w' rows l:=⟨h.len,fun i r y h1 h2=>(h.at' i r y h1 h2).below hb⟩
theorem RowsV.snoc {rows:List VR}{r:VR}{y:Vo}(h:RowsV B w rows l)(h':RowV B w r y):RowsV B w (rows++[r]) (l++[y]):=by
 refine⟨by simp[h.len],fun i q z h1 h2=>?_⟩;by_cases hi:i<rows.length
 ·rw[ZD hi] at h1;rw[ZD (by rw[<-h.len];exact hi)] at h2;exact h.at' i q z h1 h2
 ·rw[Zv (by omega)] at h1;rw[Zv (by rw[<-h.len];omega)] at h2;have h0:i-rows.length=0:=by have:=(Zb.1 h1).1;simp at this;omega
  rw[h0] at h1;rw[<-h.len,h0] at h2;simp at h1 h2;subst h1 h2;exact h'
theorem RowsV.vs {rows:List VR}(R:ResAt vrs 4 t w B a n cap rows)(h:RowsV B w rows l):VsAt B w a n l:=by
 refine⟨by rw[<-h.len];exact R.sl.len,fun i y hy=>?_⟩;have hi:i<rows.length:=by rw[h.len];exact (Zb.1 hy).1
 have hr:rows[i]?=some rows[i]:=by simp[hi]
 obtain⟨b,o,ha,hc⟩:=R.sl.cell i _ hr;have hR:=h.at' i _ y hr hy
 have he:Sf B w a:=fun _ ad e=>by
  rcases R.own with⟨h0,_⟩ | ⟨b',h1,h2,_,_,c,h3,_⟩
  ·rw[h0] at e;cases e
  ·rw[h1] at e;cases e;exact⟨h2,c,t,h3⟩
 have hb:B<=b:=by
  rcases R.own with⟨h0,_⟩ | ⟨b',h1,h2,_⟩
  ·rw[h0] at ha;cases ha
  ·rw[h1] at ha;cases ha;exact h2
 have c0:=hc 0 _ rfl;have c1:=hc 1 _ rfl;have c2:=hc 2 _ rfl;have c3:=hc 3 _ rfl;refine⟨b,o,rows[i].pa,rows[i].pn,rows[i].pc,ha,?_,?_,?_,c3,hR.its,hR.hd,hb,he⟩
 ·rw[<-hR.id];exact c0
 ·rw[<-hR.nm];exact c1
 ·rw[<-hR.fx];exact c2
theorem kb_ {l:List α}(h:SlAt cs sz w a n l)(hg:w.grownBy w' row)(hr:∀ ad,a=some ad->some ad.block≠row):SlAt cs sz w' a n l:=by
 refine⟨h.len,fun i x hx=>?_⟩;obtain⟨b,o,ha,hc⟩:=h.cell i x hx;exact⟨b,o,ha,fun j v hv=>hg.cell (hc j v hv) (hr ⟨b,o,none⟩ ha)⟩
theorem kc_ {c':Array Value}(h:Blk w b c t)(h':Blk w b c' t'):t=t':=by
 unfold Blk at h h';rw[h] at h';injection h' with e;injection e
def RowTy (w:World)(row:Option Nat)(t:TypeId):Prop:=∀ k,row=some k->∃ c,Blk w k c t
theorem hA_:RowTy w none t:=fun k e=>by cases e
theorem aa_ (h:Blk w b c t):RowTy w (some b) t:=fun k e=>by cases e;exact⟨c,h⟩
theorem ResAt.rowTy {l:List α}(h:ResAt cs sz t w B a n cap l){m:Nat}:RowTy w (Value.ownBlock (.slice a m k)) t:=by
 rcases h.own with⟨rfl,_⟩ | ⟨b,rfl,_,_,_,c,hc,_⟩
 ·intro k e;simp[Value.ownBlock] at e
 ·intro k e;simp[Value.ownBlock] at e;subst e;exact⟨c,hc⟩
theorem ResAt.off {l:List α}(h:ResAt cs sz t w B a n cap l)(hg:w.grownBy w' row)(hr:∀ ad,a=some ad->some ad.block≠row):ResAt cs sz t w' B a n cap l:=by
 refine⟨kb_ h.sl hg hr,?_⟩;rcases h.own with h0 | ⟨b,ha,hB,h1,h2,c,hc,q⟩
 ·exact .inl h0
 ·exact .inr ⟨b,ha,hB,h1,h2,c,(hg.block _ hc.lt (hr _ ha)).trans hc,q⟩
theorem ResAt.ty {l:List α}(h:ResAt cs sz t w B a n cap l)(hg:w.grownBy w' row)(hr:RowTy w row t')(ht:t≠t'):ResAt cs sz t w' B a n cap l:=by
 refine h.off hg (fun ad e hc=>?_);obtain⟨c',h'⟩:=hr _ hc.symm;rcases h.own with⟨h0,_⟩ | ⟨b,ha,_,_,_,c,hb,_⟩
 ·rw[h0] at e;cases e
 ·rw[ha] at e;cases e;exact ht (kc_ hb h')
theorem Blk.ty (h:Blk w b c t)(hg:w.grownBy w' row)(hr:RowTy w row t')(ht:t≠t'):Blk w' b c t:=by
 refine (hg.block _ h.lt (fun e=>?_)).trans h;obtain⟨c',h'⟩:=hr _ e.symm;exact ht (kc_ h h')
theorem Blk.offB (h:Blk w b c t)(hg:w.grownBy w' row)(hr:∀ k,row=some k->B<=k)(hb:b<B):Blk w' b c t:=
 (hg.block _ h.lt (fun e=>by have:=hr b e.symm;omega)).trans h
theorem kd_ (hsz:∀ x,(cs x).length=sz)(hj:j<sz)(hx':cs x'=(cs x).set j v):∀ {l:List α} {i:Nat},l[i]?=some x->(l.set i x').flatMap cs=(l.flatMap cs).set (i*sz+j) v
 |[],i,h=>by simp at h
 |y::r,0,h=>by
  obtain rfl:y=x:=by simpa using h
  rw[List.set_cons_zero,ZF,ZF,hx',Nat.zero_mul,Zq,List.set_append_left _ _ (by rw[hsz];exact hj)]
 |y::r,i+1,h=>by
  rw[List.set_cons_succ,ZF,ZF,kd_ hsz hj hx' (by simpa using h),List.set_append_right _ _ (by rw[hsz,Yd];omega),hsz,show (i+1)*sz+j-sz=i*sz+j by rw[Yd];omega]
theorem ResAt.set1 (hsz:∀ x,(cs x).length=sz){l:List α}(h:ResAt cs sz t w B (some ⟨b,0,none⟩) n cap l)(hi:l[i]?=some x)(hj:j<sz)(hx':cs x'=(cs x).set j v):
  ResAt cs sz t (w.setCell ⟨b,i*sz+j,none⟩ v) B (some ⟨b,0,none⟩) n cap (l.set i x'):=by
 have hk:=(Zb.1 hi).1;have hg:=h.sl.len;rcases h.own with⟨h0,_⟩ | ⟨b',ha,hB,hf,hh,c,hc,hs,ht⟩
 ·cases h0
 ·cases ha
  have hb:(l.set i x').length=n:=by rw[List.length_set];exact hg
  have he:(w.setCell ⟨b,i*sz+j,none⟩ v).ownsRow B t sz (.slice (some ⟨b,0,none⟩) n cap) n ((l.set i x').flatMap cs):=by
   refine⟨by rw[aY_ hsz,hb],.inr ⟨b,cap,_,rfl,hB,hc.set (i*sz+j) v,hf,hh,by simp[hs],?_⟩⟩;rw[Array.toList_setIfInBounds,List.take_set,ht,kd_ hsz hj hx' hi]
  obtain⟨a',cap',e,R⟩:=bz_ hsz hb he
  cases e
  exact R
def TinyV (l:List Vo):Prop:=l.length<=6∧∀ v∈l,v.its.length<=5∧∀ x∈v.its,x.ps.length<=16∧∀ p∈x.ps,0<=p.a
def WideV (l:List Vo):Prop:=l.length<=7∧∀ v∈l,v.its.length<=6∧∀ x∈v.its,x.ps.length<=1000∧∀ p∈x.ps,0<=p.a
theorem TinyV.wide (h:TinyV l):WideV l:=⟨by have:=h.1;omega,fun v hv=>⟨by have:=(h.2 v hv).1;omega,fun x hx=>⟨by have:=((h.2 v hv).2 x hx).1;omega,((h.2 v hv).2 x hx).2⟩⟩⟩
theorem ke_ (l a b:List Ct):sumC l (a++b)=sumC (sumC l a) b:=by simp[sumC]
theorem gI_ {id:Int}{nm:ByteArray}{ps:List Pt}{p:Pt}(h:ps[j]?=some p):partCs id nm (ps.take (j+1))=partCs id nm (ps.take j)++(if p.a==0 then [] else [⟨⟨p.a,id,nm⟩,1⟩]):=by
 unfold partCs;rw[bx_ h,List.filter_append,List.map_append]
 cases hp:(p.a==0)<;>simp[hp]
def itsCs (v:Vo)(l:List It):List Ct:=l.flatMap (fun x=>partCs v.id x.nm x.ps)
theorem fq_ {v:Vo}{l:List It}{x:It}(h:l[k]?=some x):itsCs v (l.take (k+1))=itsCs v (l.take k)++partCs v.id x.nm x.ps:=by
 unfold itsCs;rw[bx_ h,ZQ];simp
theorem lE_ {v:Vo}(h:l[i]?=some v):allCs (l.take (i+1))=allCs (l.take i)++itsCs v v.its:=by
 unfold allCs;rw[bx_ h,ZQ];simp[volCs,itsCs]
structure Fnd (w:World)(B:Nat)(out:Value)(L:List Ct)(M:Nat):Prop where
 at':∃ a n cap,out=.slice a n cap∧n<=M∧ResAt Ct.cs 4 107 w B a n cap L
 bd:∀ x∈L,-(1000*(M:Int))<=x.n∧x.n<=1000*(M:Int)
theorem Fnd.below (h:Fnd w B out L M)(hb:Below w.heap.size w w'):Fnd w' B out L M:=by
 obtain⟨⟨a,n,cap,e,hn,R⟩,ha⟩:=h;exact⟨⟨a,n,cap,e,hn,R.below hb⟩,ha⟩
theorem Fnd.mono {M':Nat}(h:Fnd w B out L M)(hM:M<=M'):Fnd w B out L M':=by
 obtain⟨⟨a,n,cap,e,hn,R⟩,ha⟩:=h;exact⟨⟨a,n,cap,e,by omega,R⟩,fun x hx=>by have:=ha x hx;omega⟩
theorem bA_ (B:Nat)(a:Option Addr)(n cap:Nat)(vs:List Vo)(w:World)(h:VsAt B w a n vs)(ht:WideV vs):
  Calls prog 56 #[.slice a n cap] w fun e w'=>(∃ a' n' cap',e=.returned (.slice a' n' cap')∧n'<=42000∧(∀ x∈walkL vs,-42000000<=x.n∧x.n<=42000000)∧ResAt Ct.cs 4 107 w' w.heap.size a' n' cap' (walkL vs))∧Below w.heap.size w w':=by
 have he:Hid (vs.length=n):=h.len;have hQ:n<=7:=by rw[<-he.out];exact ht.1
 go_enter func56,ntmps56
 go_wp2_with fail
 go_loopw [3,4] (fun out ix wr=>∃ (i:Nat),i<=n∧ix=.int .i64 i∧Fnd wr w.heap.size out (sumC [] (allCs (vs.take i))) (6000*i)∧Below w.heap.size w wr) (fun _ ix _=>n-(intOf ix).toNat)
 case atStart=>exact⟨0,Zg _,rfl,⟨⟨_,0,0,rfl,Zg _,aw_ (Blk.new' _ _ _ _ rfl) (Zd _)⟩,fun x hx=>by cases hx⟩,(Below.refl _ _).alloc (Zd _) _⟩
 case round=>
  obtain⟨i,hi,rfl,hF,hB⟩:=hrel;obtain⟨wi,hy⟩:∃ x,x=wr:=⟨_,rfl⟩;subst hy;by_cases hlt:i<n
  ·obtain⟨b,o,v,ia,inn,icp,rfl,hv,c0,c1,c2,c3,hI,_,_⟩:=b5_ (h.below hB) hlt;obtain⟨t1,t2⟩:=ht.2 v (Zc hv);have hr:Hid (v.its.length=inn):=hI.len;rw[hr.out] at t1;have hO:(i:Int)<n:=by omega
   have hG:(0:Int)<=i:=by omega
   have hh:Hid (allCs (vs.take (i+1))=allCs (vs.take i)++itsCs v v.its):=lE_ hv;clear hv;generalize allCs (vs.take i)=PA at *
   go_wp2_with fail
   go_loopw [3,5] (fun out ix wk=>∃ (k:Nat),k<=inn∧ix=.int .i64 k∧Fnd wk w.heap.size out (sumC [] (PA++itsCs v (v.its.take k))) (6000*i+1000*k)∧Below wi.heap.size wi wk) (fun _ ix _=>inn-(intOf ix).toNat)
   case atStart=>exact⟨0,Zg _,rfl,by simpa[itsCs] using hF,Below.refl _ _⟩
   case round=>
    clear hF;obtain⟨k,hk,rfl,hF,hc⟩:=hrel;obtain⟨wk,hw⟩:∃ x,x=wr:=⟨_,rfl⟩;subst hw;have e0:=bcell hc c0;have e3:=bcell hc c3;by_cases hlk:k<inn
    ·obtain⟨b',o',x,pa,pn,pc,rfl,hx,d0,d1,hP,_,_,_⟩:=bO_ (hI.below hc) hlk;obtain⟨u1,u2⟩:=t2 x (Zc hx);have hs:Hid (x.ps.length=pn):=hP.len;rw[hs.out] at u1;have hU:(k:Int)<inn:=by omega
     have hT:(0:Int)<=k:=by omega
     have hl:Hid (itsCs v (v.its.take (k+1))=itsCs v (v.its.take k)++partCs v.id x.nm x.ps):=fq_ hx;clear hx;generalize itsCs v (v.its.take k)=PI at *
     go_wp2_with fail
     have hg:Below wk.heap.size wk (wk.alloc (.cells #[.string x.nm,.slice pa pn pc] 156)):=by go_grown
     have X0:(wk.alloc (.cells #[.string x.nm,.slice pa pn pc] 156)).cell? ⟨wk.heap.size,0,none⟩=some (.string x.nm):=(Blk.new wk #[.string x.nm,.slice pa pn pc] 156).cell 0;have X1:(wk.alloc (.cells #[.string x.nm,.slice pa pn pc] 156)).cell? ⟨wk.heap.size,1,none⟩=some (.slice pa pn pc):=(Blk.new wk #[.string x.nm,.slice pa pn pc] 156).cell 1;have E0:=bcell hg e0;have hD:=hP.below hg;have hq:=hF.below hg;generalize wk.alloc (.cells #[.string x.nm,.slice pa pn pc] 156)=W0 at *
     go_loopw [3,7] (fun out ix wj=>∃ (j:Nat),j<=pn∧ix=.int .i64 j∧Fnd wj w.heap.size out (sumC [] (PA++PI++partCs v.id x.nm (x.ps.take j))) (6000*i+1000*k+j)∧Below W0.heap.size W0 wj) (fun _ ix _=>pn-(intOf ix).toNat)
     case atStart=>exact⟨0,Zg _,rfl,by simpa[partCs] using hq,Below.refl _ _⟩
     case round=>
      clear hF hq;obtain⟨j,hj,rfl,hF,ha⟩:=hrel;have x0:=bcell ha X0;have x1:=bcell ha X1;have y0:=bcell ha E0;by_cases hlj:j<pn
      ·obtain⟨b2,o2,p,rfl,hp,f0,f1,f2⟩:=bi_ (hD.below ha) hlj;have hE:=u2 p (Zc hp);have hb:Hid (partCs v.id x.nm (x.ps.take (j+1))=partCs v.id x.nm (x.ps.take j)++(if p.a==0 then [] else [⟨⟨p.a,v.id,x.nm⟩,1⟩])):=gI_ hp;clear hp;generalize partCs v.id x.nm (x.ps.take j)=PP at *;have hK:(j:Int)<pn:=by omega
       have hR:(0:Int)<=j:=by omega
       by_cases hz:0<p.a
       ·have ho:(p.a==0)=false:=ZV.2 (by omega);rw[ho] at hb;simp only[Zj,if_false] at hb;obtain⟨⟨a2,n2,cap2,rfl,hC,R⟩,hf⟩:=hF
        go_wp2_with fail
        refine aE_ 16 (by kernel_rfl) (by kernel_rfl) ?_;simp only[ZP,List.take_zero,ZR,List.drop_zero]
        repeat still_step
        refine wpStill_nil ?_
        go_wp2_with fail
        have hm:=(Below.refl wr.heap.size wr).drew;refine (hr_ a2 n2 cap2 _ ⟨⟨p.a,v.id,x.nm⟩,1⟩ _ (R.sl.below hm) (by omega) (fun z hn=>by have:=hf z hn;omega) (by simp)).mono ?_;rintro e w3 ⟨⟨a3,n3,cap3,rfl,hH,R3⟩,hA⟩;have hu:Below wr.heap.size wr w3:=chain hm hA;have hL:=hB.size;have hM:=hc.size;have hJ:=hg.size;have hS:=ha.size;have hN:=hm.size;go_wp2;go_roundw
        case rel=>
         refine⟨j+1,by omega,by go_num,⟨⟨a3,n3,cap3,rfl,by omega,?_⟩,?_⟩,chain ha hu⟩
         ·rw[hb.out,<-ZC,ke_];exact R3.mono (by omega)
         ·rw[hb.out,<-ZC,ke_];intro z hn
          have:=lD_ (B:=1000*((6000*i+1000*k+j:Nat):Int)) (by omega) (c:=⟨⟨p.a,v.id,x.nm⟩,1⟩) (by simp) (by simp) hf z hn
          omega
        case measure=>simp[intOf];omega
       ·have ho:(p.a==0)=true:=by simp;omega
        rw[ho] at hb;simp only[if_true,List.append_nil] at hb;go_wp2;go_roundw
        case rel=>exact⟨j+1,by omega,by go_num,by rw[hb.out];exact hF.mono (by omega),ha⟩
        case measure=>simp[intOf];omega
      ·obtain rfl:j=pn:=by omega
       go_wp2;go_roundw
       case rel=>
        refine⟨k+1,by omega,by go_num,?_,chain hc (chain hg ha)⟩;rw[hl.out,<-ZC];rw[Zk (Zm hs.out)] at hF;exact hF.mono (by omega)
       case measure=>simp[intOf];omega
    ·obtain rfl:k=inn:=by omega
     go_wp2;go_roundw
     case rel=>
      refine⟨i+1,by omega,by go_num,?_,chain hB hc⟩;rw[hh.out,<-Zk (l:=v.its) (Zm hr.out)];exact hF.mono (by omega)
     case measure=>simp[intOf];omega
  ·obtain rfl:i=n:=by omega
   obtain⟨⟨a2,n2,cap2,rfl,hC,R⟩,hf⟩:=hF;go_wp2;go_returns;rw[Zk (Zm he.out)] at R hf;exact⟨⟨a2,n2,cap2,rfl,by omega,(fun x hx=>by have:=hf x hx;omega),R⟩,hB⟩
theorem ir_ (B:Nat)(a:Option Addr)(n cap:Nat)(vs:List Vo)(w:World)(h:VsAt B w a n vs)(ht:TinyV vs):
  Calls prog 56 #[.slice a n cap] w fun e w'=>(∃ a' n' cap',e=.returned (.slice a' n' cap')∧n'<=42000∧ResAt Ct.cs 4 107 w' w.heap.size a' n' cap' (walkL vs))∧Below w.heap.size w w':=by
 refine (bA_ B a n cap vs w h ht.wide).mono ?_;rintro e w' ⟨⟨a',n',cap',he,hn,_,R⟩,hB⟩;exact⟨⟨a',n',cap',he,hn,R⟩,hB⟩
end
section
open Go.RowKit Go.BigFrame Go.Lib Tryz
variable{xs:List Value}{B e n:Nat}{v:Value}{w:World}
def RetStr (e:Ending):Option ByteArray->Prop
 |none=>e=.returned (.tuple #[.string ⟨#[]⟩,.bool false])
 |some s=>e=.returned (.tuple #[.string s,.bool true])
theorem d4_ (x y:ByteArray):strCells x++strCells y=strCells (x++y):=by
 simp[strCells]
theorem info5:(prog.info? 5).map (fun i=>(i.zero,i.size,i.bytes))=some (some (.int .u8 0),1,1):=by kernel_rfl
theorem iF_ (h:w.ownsRow B e 1 v n xs):∀ k,v.ownBlock=some k->B<=k:=by
 rcases h.2 with⟨rfl,_⟩ | ⟨g,cap,cur,rfl,hB,_⟩
 ·intro k hk;cases hk
 ·intro k hk;simp[Value.ownBlock] at hk;omega
theorem iG_ {w':World}(h:w.ownsRow B e 1 v n xs)(hb:Below w.heap.size w w'):w'.ownsRow B e 1 v n xs:=by
 refine⟨h.1,?_⟩;rcases h.2 with h0 | ⟨g,cap,cur,h1,h2,h3,h4⟩
 ·exact .inl h0
 ·exact .inr ⟨g,cap,cur,h1,h2,by rw[hb.block g (ZG.1 h3).1];exact h3,h4⟩
theorem iH_ (h:w.ownsRow B e 1 v n xs):∃ a cap,v=.slice a n cap:=by
 rcases h.2 with⟨rfl,rfl⟩ | ⟨g,cap,cur,rfl,_⟩
 ·exact⟨none,0,rfl⟩
 ·exact⟨_,_,rfl⟩
theorem fO_ (a:Option Addr)(n cap:Nat)(l:List Pt)(a':Option Addr)(n' cap':Nat)(e:List Ex)(w:World)(h:PtsAt w a n l)(h':ExsAt w a' n' e)(hstr:Strs e)(hn:n<=4194304)(hn':n'<=4194304):
  Calls prog 170 #[.slice a n cap,.slice a' n' cap'] w fun x w'=>RetStr x (contentO l e)∧Below w.heap.size w w':=by
 have ho:Hid (l.length=n):=h.len
 cases hj:partsOkB l
 ·have hf:contentO l e=none:=by simp[contentO,hj]
  rw[hf];go_enter func170,ntmps170
  go_wp2_with fail
  refine (as_ a n cap l _ h hn).mono ?_;rintro x w1 ⟨rfl,hh⟩;rw[hj];go_wp2;go_returns;exact⟨rfl,hh⟩
 ·cases hg:spaceOkB 400 e
  ·have hf:contentO l e=none:=by simp[contentO,hg]
   rw[hf];go_enter func170,ntmps170
   go_wp2_with fail
   refine (as_ a n cap l _ h hn).mono ?_;rintro x w1 ⟨rfl,hh⟩;rw[hj]
   go_wp2_with fail
   refine (a8_ 400 a' n' cap' e _ (h'.below hh) hstr hn').mono ?_;rintro x w2 ⟨rfl,hs⟩;rw[hg];have hl:=chain hh hs;go_wp2;go_returns;exact⟨rfl,hl⟩
  ·have hf:Hid (contentO l e=cgo e ⟨#[]⟩ (l.drop 0)):=by show _=_;simp[contentO,hj,hg]
   obtain⟨hx,hw⟩:=gd_ hj;have hG:n<=16:=by rw[<-ho.out];exact hx
   obtain⟨i0,hi,hA,hC,hz⟩:=info_parts info5;generalize contentO l e=R at *;go_enter func170,ntmps170
   go_wp2_with fail
   refine (as_ a n cap l _ h hn).mono ?_;rintro x w1 ⟨rfl,hh⟩;rw[hj]
   go_wp2_with fail
   refine (a8_ 400 a' n' cap' e _ (h'.below hh) hstr hn').mono ?_;rintro x w2 ⟨rfl,hs⟩;rw[hg];replace hs:=chain hh hs
   go_wp2_with fail
   go_loopw [6,20] (fun out ix wr=>∃ (k m:Nat) (s:ByteArray) (a2:Option Addr) (cap2:Nat),k<=n∧ix=.int .i64 k∧m<=100*k∧out=.slice a2 m cap2∧wr.ownsRow w.heap.size 5 1 (.slice a2 m cap2) m (strCells s)∧Hid (R=cgo e s (l.drop k))∧Below w.heap.size w wr) (fun _ ix _=>n-(RowKit.intOf ix).toNat)
   case atStart=>exact⟨0,0,⟨#[]⟩,none,0,Zg _,rfl,Zg _,rfl,World.ownsRow_nil _ _ _ _,hf,hs⟩
   case round=>
    obtain⟨k,m,s,a2,cap2,hk,rfl,hm,rfl,hc,hI,hB⟩:=hrel;have hN:=hB.size;by_cases hlt:k<n
    ·obtain⟨b,o,p,rfl,hp,c0,c1,c2⟩:=bi_ (h.below hB) hlt;have hd:Hid (l.drop k=p::l.drop (k+1)):=al_ hp;obtain⟨hQ,hM,hE⟩:=hw p (Zc hp);obtain⟨pa,pf,pn⟩:=p;dsimp only at *;obtain⟨pk,rfl⟩:∃ pk:Nat,pn=pk:=⟨pn.toNat,by omega⟩
     cases ha:(pa==0)
     ·have hK:pa≠0:=by simpa using ha
      obtain⟨f0,f20⟩:=hE hK;obtain⟨fk,rfl⟩:∃ fk:Nat,pf=fk:=⟨pf.toNat,by omega⟩;have hv:Hid (R=match pieceO e ⟨pa,fk,pk⟩ with | none=>none | some d=>cgo e (s++d) (l.drop (k+1))):=by show _=_;rw[hI.out,hd.out];rfl
      have hu:Hid (pieceO e ⟨pa,fk,pk⟩=if ((dataAtB pa e).size:Int)<fk+pk then none else some ((dataAtB pa e).extract fk (fk+pk))):=by
       show _=_;simp only[pieceO,ha,Zj,if_false,Int.toNat_natCast];rw[show ((fk:Int)+(pk:Int)).toNat=fk+pk by omega]
      have hD:=ek_ (addr:=pa) hstr
      go_wp2_with fail
      refine (jS_ a' n' cap' e pa _ ((h'.below hB).alloc _) hn').mono ?_;rintro x w3 ⟨rfl,hl⟩;generalize dataAtB pa e=D at *;obtain⟨z0,z1,z2,hq,_⟩:=box3 hl;clear hl c0 c1 c2;have hb:=iG_ hc hq;have ht:=chain hB hq;clear hc;by_cases hlt2:(D.size:Int)<fk+pk
      ·rw[if_pos hlt2] at hu;go_wp2;go_returns;rw[hv.out,hu.out];exact⟨rfl,ht⟩
      ·rw[if_neg hlt2] at hu;have hP:(fk:Int)+(pk:Int)<=D.size:=by omega
       have hH:=run_slice_string (P:=prog) (w:=w3) 9 D .i64 .i64 fk (fk+pk) underlying9 (by omega) (by omega) (by omega);rw[show ((fk:Int)+(pk:Int)).toNat=fk+pk by omega,Int.toNat_natCast] at hH;have hO:(D.extract fk (fk+pk)).size=pk:=by rw[ByteArray.size_extract];omega
       generalize D.extract fk (fk+pk)=X at *
       go_wp2_with (at_builtin;refine wpList_append_own_string _ rfl _ _ 150 9 rfl w.heap.size 5 i0 underlying150 underlying9 hi hA hC hz _ m (strCells s) rfl hb X rfl (by unfold maxLen;omega) (by omega) ht.size ?_;intro v5 w5 he hF _)
       obtain⟨a3,cap3,rfl⟩:=iH_ he;rw[d4_] at he;have hL:Below w.heap.size w w5:=ht.grown hF ht.size (iF_ hb);go_roundw
       case rel=>exact⟨k+1,m+X.size,s++X,a3,cap3,by omega,by go_num,by omega,rfl,he,by show _=_;rw[hv.out,hu.out],hL⟩
       case measure=>simp[RowKit.intOf];omega
     ·have hv:Hid (R=cgo e (s++zs pk) (l.drop (k+1))):=by
       show _=_;rw[hI.out,hd.out];simp[cgo,pieceO,ha]
      have hr:∀ x,(wr.alloc x).ownsRow w.heap.size 5 1 (.slice a2 m cap2) m (strCells s):=fun x=>iG_ hc ((Below.refl _ _).alloc (Zd _) _)
      go_wp2_with (at_builtin;refine eY_ _ rfl _ _ 150 2 9 rfl w.heap.size 5 i0 .i64 underlying150 underlying2 underlying9 hi hA hC hz _ m (strCells s) rfl (hr _) .i64 pk rfl (by omega) (by omega) (by simp;omega) ?_;intro v3 w3 hb hJ)
      obtain⟨a3,cap3,rfl⟩:=iH_ hb;rw[d4_] at hb;have hl:Below w.heap.size w w3:=Below.grown (by go_grown) hJ (by simp;omega) (iF_ hc);go_roundw
      case rel=>exact⟨k+1,m+pk,s++zs pk,a3,cap3,by omega,by go_num,by omega,rfl,hb,hv,hl⟩
      case measure=>simp[RowKit.intOf];omega
    ·obtain rfl:k=n:=by omega
     have hy:=jO_ (P:=prog) hc 150 underlying150 underlying5 9 underlying9;go_wp2;go_returns;rw[hI.out,Ze (by rw[ho.out];exact Zd _)];exact⟨rfl,hB⟩
theorem kf_ (addr:Int):∀ (l:List Ex) (k:Nat),(atG addr k l=-1∧dataAtB addr l=⟨#[]⟩)∨∃ (j:Nat) (x:Ex),l[j]?=some x∧atG addr k l=(k:Int)+j∧dataAtB addr l=x.d
 |[],k=>.inl ⟨rfl,rfl⟩
 |e::r,k=>by
  unfold atG dataAtB;split
  ·rename_i h;exact .inr ⟨0,e,rfl,by simp,rfl⟩
  ·rename_i h;rcases kf_ addr r (k+1) with⟨h1,h2⟩ | ⟨j,x,h1,h2,h3⟩
   ·exact .inl ⟨h1,h2⟩
   ·exact .inr ⟨j+1,x,by simpa using h1,by rw[h2];omega,h3⟩
theorem eo_ (a:Option Addr)(n cap:Nat)(l:List Pt)(a':Option Addr)(n' cap':Nat)(e:List Ex)(w:World)(h:PtsAt w a n l)(h':ExsAt w a' n' e)(hstr:Strs e)(hn:n<=16)(hn':n'<=4194304)(hall:∀ p∈l,1<=p.n∧p.n<=100∧(p.a≠0->0<=p.f∧p.f<20)):
  Calls prog 102 #[.slice a n cap,.slice a' n' cap'] w fun x w'=>RetStr x (cgo e ⟨#[]⟩ l)∧Below w.heap.size w w':=by
 have hg:Hid (l.length=n):=h.len;have hf:Hid (cgo e ⟨#[]⟩ l=cgo e ⟨#[]⟩ (l.drop 0)):=rfl;generalize cgo e ⟨#[]⟩ l=R at *;obtain⟨i0,hi,hx,hy,hw⟩:=info_parts info5;go_enter func102,ntmps102
 go_wp2_with fail
 go_loopw [6,7] (fun out ix wr=>∃ (k:Nat) (s:ByteArray),k<=n∧ix=.int .i64 k∧s.size<=100*k∧out=.string s∧Hid (R=cgo e s (l.drop k))∧Below w.heap.size w wr) (fun _ ix _=>n-(RowKit.intOf ix).toNat)
 case atStart=>exact⟨0,⟨#[]⟩,Zg _,rfl,by simp[ByteArray.size],rfl,hf,Below.refl _ _⟩
 case round=>
  obtain⟨k,s,hk,rfl,hm,rfl,hI,hB⟩:=hrel;have hv:=hB.size;by_cases hlt:k<n
  ·obtain⟨b,o,p,rfl,hp,c0,c1,c2⟩:=bi_ (h.below hB) hlt;have hd:Hid (l.drop k=p::l.drop (k+1)):=al_ hp;obtain⟨hH,hC,hs⟩:=hall p (Zc hp);obtain⟨pa,pf,pn⟩:=p;dsimp only at *;obtain⟨pk,rfl⟩:∃ pk:Nat,pn=pk:=⟨pn.toNat,by omega⟩
   cases ha:(pa==0)
   ·have hz:pa≠0:=by simpa using ha
    obtain⟨f0,f20⟩:=hs hz;obtain⟨fk,rfl⟩:∃ fk:Nat,pf=fk:=⟨pf.toNat,by omega⟩;have hc:Hid (R=match pieceO e ⟨pa,fk,pk⟩ with | none=>none | some d=>cgo e (s++d) (l.drop (k+1))):=by show _=_;rw[hI.out,hd.out];rfl
    have hb:Hid (pieceO e ⟨pa,fk,pk⟩=if ((dataAtB pa e).size:Int)<fk+pk then none else some ((dataAtB pa e).extract fk (fk+pk))):=by
     show _=_;simp only[pieceO,ha,Zj,if_false,Int.toNat_natCast];rw[show ((fk:Int)+(pk:Int)).toNat=fk+pk by omega]
    have hD:=ek_ (addr:=pa) hstr
    go_wp2_with fail
    refine (iC_ a' n' cap' e pa _ ((h'.below hB).alloc _) hn').mono ?_;rintro x w3 ⟨rfl,rfl⟩;rcases kf_ pa e 0 with⟨g1,g2⟩ | ⟨j,x,g1,g2,g3⟩
    ·rw[g1];rw[g2,if_pos (by simp[ByteArray.size];omega)] at hb;clear hI hd hp c0 c1 c2
     go_wp2_with fail
     go_quiet (fail)
     go_wp2;go_returns;rw[hc.out,hb.out];exact⟨rfl,below_drewN (by go_grown) _⟩
    ·rw[g2,show ((0:Nat):Int)+(j:Int)=j by omega];rw[g3] at hb hD;have hj:j<n':=by rw[<-h'.len];exact (Zb.1 g1).1
     obtain⟨b',o',x',rfl,hl,y0,y1⟩:=be_ ((h'.below hB).alloc (.cells #[.int .i64 pa,.int .i64 fk,.int .i64 pk] 162)) hj;rw[g1] at hl;obtain rfl:=Zi hl;have ho:Below w.heap.size w (wr.alloc (.cells #[.int .i64 pa,.int .i64 fk,.int .i64 pk] 162)):=hB.alloc hv _;have z0:(wr.alloc (.cells #[.int .i64 pa,.int .i64 fk,.int .i64 pk] 162)).cell? ⟨wr.heap.size,0,none⟩=some (.int .i64 pa):=by simp
     have z1:(wr.alloc (.cells #[.int .i64 pa,.int .i64 fk,.int .i64 pk] 162)).cell? ⟨wr.heap.size,1,none⟩=some (.int .i64 fk):=by simp
     have z2:(wr.alloc (.cells #[.int .i64 pa,.int .i64 fk,.int .i64 pk] 162)).cell? ⟨wr.heap.size,2,none⟩=some (.int .i64 pk):=by simp
     clear c0 c1 c2 hI hd hp g1 g2 g3;generalize wr.alloc (.cells #[.int .i64 pa,.int .i64 fk,.int .i64 pk] 162)=W at *;obtain⟨xa,D⟩:=x;dsimp only at *;have hJ:(0:Int)<=j:=by omega
     have hK:(j:Int)<n':=by omega
     have hF:decide ((j:Int)<0)=false:=by simp
     by_cases hlt2:(D.size:Int)<fk+pk
     ·rw[if_pos hlt2] at hb
      go_wp2_with fail
      go_quiet (fail)
      go_wp2;go_returns;rw[hc.out,hb.out];exact⟨rfl,below_drewN ho _⟩
     ·rw[if_neg hlt2] at hb;have hG:(fk:Int)+(pk:Int)<=D.size:=by omega
      have hu:=fun W'=>run_slice_string (P:=prog) W' 9 D .i64 .i64 fk (fk+pk) underlying9 (by omega) (by omega) (by omega);rw[show ((fk:Int)+(pk:Int)).toNat=fk+pk by omega,Int.toNat_natCast] at hu;have hE:(D.extract fk (fk+pk)).size=pk:=by rw[ByteArray.size_extract];omega
      generalize D.extract fk (fk+pk)=X at *
      go_wp2_with fail
      go_quiet (fail)
      have hA:=below_drewN ho nq;replace z0:(W.drewN nq).cell? ⟨wr.heap.size,0,none⟩=some (.int .i64 pa):=z0;replace z1:(W.drewN nq).cell? ⟨wr.heap.size,1,none⟩=some (.int .i64 fk):=z1;replace z2:(W.drewN nq).cell? ⟨wr.heap.size,2,none⟩=some (.int .i64 pk):=z2;replace y1:(W.drewN nq).cell? ⟨b',o'+j*2+1,none⟩=some (.string D):=y1;clear y0;generalize W.drewN nq=W1 at *
      go_wp2_with fail
      go_quiet (fail)
      go_wp2;go_roundw
      case rel=>exact⟨k+1,s++X,by omega,by go_num,by rw[ByteArray.size_append];omega,rfl,by show _=_;rw[hc.out,hb.out],below_drewN hA _⟩
      case measure=>simp[RowKit.intOf];omega
   ·have hc:Hid (R=cgo e (s++zs pk) (l.drop (k+1))):=by
     show _=_;rw[hI.out,hd.out];simp[cgo,pieceO,ha]
    have hr:∀ u:World,(Instr.makeSlice 150 (.int .i64 (pk:Int)) (.int .i64 (pk:Int))).run prog u=.ok (.slice (some ⟨u.heap.size,0,none⟩) pk pk) (u.alloc (.cells (strCells (zs pk)).toArray 5)):=fun u=>by
     have hm:=run_make (P:=prog) u 150 5 i0 (.int .u8 0) underlying150 hi hx .i64 .i64 (pk:Int) (pk:Int) (by omega) (Int.le_refl _) (by rw[hw];omega) (by omega);rw[jN_];simpa[hy,Value.cells,madeCells,Builtin.zeroCells] using hm
    have hq:∀ u:World,(convert 150 9 (.slice (some ⟨u.heap.size,0,none⟩) pk pk)).run prog (u.alloc (.cells (strCells (zs pk)).toArray 5))=.ok (.string (zs pk)) (u.alloc (.cells (strCells (zs pk)).toArray 5)):=fun u=>
     jO_ (B:=0) (e:=5) (n:=pk) ⟨by rw[strCells_length,ca_,Nat.mul_one],.inr ⟨u.heap.size,pk,_,rfl,Zg _,Blk.new u _ 5,Zd _,by unfold maxLen;omega,by simp[strCells_length,ca_],by rw[Nat.mul_one,Zk (by simp[strCells_length,ca_])]⟩⟩ 150 underlying150 underlying5 9 underlying9
    have he:=hr (wr.alloc (.cells #[.int .i64 pa,.int .i64 pf,.int .i64 pk] 162));have hh:=hq (wr.alloc (.cells #[.int .i64 pa,.int .i64 pf,.int .i64 pk] 162));rw[show (wr.alloc (.cells #[.int .i64 pa,.int .i64 pf,.int .i64 pk] 162)).heap.size=wr.heap.size+1 by simp] at he hh;have ht:=ca_ pk;generalize zs pk=Z at *;clear hr hq;go_wp2;go_roundw
    case rel=>exact⟨k+1,s++Z,by omega,by go_num,by rw[ByteArray.size_append];omega,rfl,hc,by go_grown⟩
    case measure=>simp[RowKit.intOf];omega
  ·obtain rfl:k=n:=by omega
   go_wp2;go_returns;rw[hI.out,Ze (by rw[hg.out];exact Zd _)];exact⟨rfl,hB⟩
end
section
open Go Go.RowKit Go.BigFrame Tryz
def prevI (l:List It)(k:Nat):Option It:=if k=0 then none else l[k-1]?
theorem hB_ (l:List It)(k:Nat):prevI l (k+1)=l[k]?:=by simp[prevI]
theorem jm_ {ps:List Pt}{e:List Ex}(h:spaceOkB 400 e=true):(contentO ps e).isSome=(partsOkB ps&&(cgo e ⟨#[]⟩ ps).isSome):=by
 unfold contentO
 cases hp:partsOkB ps<;>simp[h]
end
end Go.Proofs.YtbbhcnjhohidnaaGreatDoor
