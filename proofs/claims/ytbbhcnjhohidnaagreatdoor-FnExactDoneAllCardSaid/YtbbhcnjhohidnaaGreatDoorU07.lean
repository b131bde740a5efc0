/- The laws' comparisons of lists of items and volumes, where they are the same. -/
import Derived.Test.YtbbhcnjhohidnaaGreatDoorU06
set_option maxHeartbeats 20000000
set_option maxRecDepth 100000
namespace Go.Proofs.YtbbhcnjhohidnaaGreatDoor
section
open Go Go.RowKit Go.BigFrame Tryz
variable{L:List Ct}{B:Nat}{p:Po}{t:TypeId}{v:Value}{w w':World}
theorem jl_ (B:Nat)(v:Value)(p:Po)(L:Int)(w:World)(h:AA B w v p)(hb:Gc p)(hL0:0<=L)(hL:L<=1048576):
  Calls prog 5 #[v,.int .i64 L] w fun e w'=>(∃ r:Int,e=.returned (.int .i64 r)∧(r=-1∨(0<=r∧r<=1048576∧BZ p)))∧Below w.heap.size w w':=by
 obtain⟨ea,en,ec,va,vn,vc,ra,rn,rc,la,ln,lc,rfl,⟨h1,k1⟩,⟨h2,k2⟩,⟨h3,k3⟩,h4,k4⟩:=h;obtain⟨z1,z2,z3,z4,z5,z6,z7,z8⟩:=hb;rw[h1.len] at z1;rw[h2.len] at z3;rw[h3.len] at z5;rw[h4.len] at z7;unfold BZ;rw[h1.len,h2.len,h3.len,h4.len];obtain⟨size,next,ex,vs,rf,lt⟩:=p;simp only at *;go_enter func5,ntmps5
 go_wp2_with fail
 refine (hi_ ea en ec ex L _ (h1.below (by go_grown)) z2 z1 hL0 hL).mono ?_;rintro e w1 ⟨⟨r,rfl,hr⟩,ha⟩;have C:Blk w1 w.heap.size _ _:=(Blk.new w _ _).below ha;replace ha:Below w.heap.size w w1:=Aa (by go_grown) ha;rcases hr with rfl | ⟨r0,r1,r2⟩
 ·go_wp2;go_returns;exact⟨⟨-1,rfl,.inl rfl⟩,ha⟩
 ·have c3:=C.cell 3;simp only[lgA,lgB,lgC] at c3
  go_wp2_with fail
  refine (hx_ B va vn vc vs r _ (h2.below ha) z4 z3 (by omega) (by omega)).mono ?_;rintro e w2 ⟨⟨q,rfl,hq⟩,hc⟩;replace C:=C.below hc;replace hc:=Aa ha hc;clear c3;rcases hq with rfl | ⟨q0,q1,q2⟩
  ·go_wp2;go_returns;exact⟨⟨-1,rfl,.inl rfl⟩,hc⟩
  ·have c4:=C.cell 4;simp only[lgA,lgB,lgC] at c4
   go_wp2_with fail
   refine (d1_ ra rn rc rf q _ (h3.below hc) z6 z5 (by omega) (by omega)).mono ?_;rintro e w3 ⟨⟨s,rfl,hs⟩,he⟩;replace C:=C.below he;replace he:=Aa hc he;clear c4;rcases hs with rfl | ⟨s0,s1,s2⟩
   ·go_wp2;go_returns;exact⟨⟨-1,rfl,.inl rfl⟩,he⟩
   ·have c5:=C.cell 5;simp only[lgA,lgB,lgC] at c5
    go_wp2_with fail
    refine (d1_ la ln lc lt s _ (h4.below he) z8 z7 (by omega) (by omega)).mono ?_;rintro e w4 ⟨⟨t,rfl,ht⟩,hf⟩;replace hf:=Aa he hf;clear c5;rcases ht with rfl | ⟨t0,t1,t2⟩
    ·go_wp2;go_returns;exact⟨⟨-1,rfl,.inl rfl⟩,hf⟩
    ·go_wp2;go_returns;exact⟨⟨t,rfl,.inr ⟨t0,t1,r2,q2,s2,t2⟩⟩,hf⟩
theorem ka_ (B:Nat)(v:Value)(p:Po)(w:World)(h:AA B w v p)(hb:Gc p):
  Calls prog 5 #[v,.int .i64 1048576] w fun e w'=>(∃ r:Int,e=.returned (.int .i64 r)∧(r=-1∨(0<=r∧r<=1048576∧BZ p)))∧Below w.heap.size w w':=jl_ B v p 1048576 w h hb (by omega) (by omega)
structure IR where
 nm:ByteArray
 pa:Option Addr
 pn:Nat
 pc:Nat
end
section
open Go Go.RowKit Go.BigFrame Tryz
variable{α:Type}{c:Array Value}{y:It}{L:List Ct}{l:List Vo}{B M b cap i j k n sz:Nat}{a:Option Addr}{row:Option Nat}{p:Po}{t t':TypeId}{out v:Value}{w w':World}{x x':α}{cs:α->List Value}
variable{rows:List IR}
variable{r:IR}
structure VR where
 id:Int
 nm:ByteArray
 fx:Bool
 pa:Option Addr
 pn:Nat
 pc:Nat
def irs (r:IR):List Value:=[.string r.nm,.slice r.pa r.pn r.pc]
def vrs (r:VR):List Value:=[.int .i64 r.id,.string r.nm,.bool r.fx,.slice r.pa r.pn r.pc]
theorem aI_ (r:IR):(irs r).length=2:=rfl
theorem a2_ (r:VR):(vrs r).length=4:=rfl
theorem eP_ (l:List IR):∀ u∈l.flatMap irs,u.oneCell'=true:=by
 intro u hu;obtain⟨p,_,hp⟩:=ZL.1 hu;simp[irs] at hp;rcases hp with rfl | rfl<;>rfl
theorem pm_ (l:List VR):∀ u∈l.flatMap vrs,u.oneCell'=true:=by
 intro u hu;obtain⟨p,_,hp⟩:=ZL.1 hu;simp[vrs] at hp;rcases hp with rfl | rfl | rfl | rfl<;>rfl
structure FD (B:Nat)(w:World)(r:IR)(y:It):Prop where
 nm:r.nm=y.nm
 ps:AE w r.pa r.pn y.ps
 hd:Hd B r.pa r.pn r.pc
 ge:∀ ad,r.pa=some ad->B<=ad.block
 lt:∀ ad,r.pa=some ad->ad.block<w.heap.size
 sf:Sf B w r.pa
theorem FD.below (h:FD B w r y)(hb:Below w.heap.size w w'):FD B w' r y:=
 ⟨h.nm,h.ps.below hb,h.hd,h.ge,fun ad e=>Zy (h.lt ad e) hb.size,h.sf.below hb⟩
structure CB (B:Nat)(w:World)(rows:List IR)(l:List It):Prop where
 len:rows.length=l.length
 at':∀ (i:Nat) r y,rows[i]?=some r->l[i]?=some y->FD B w r y
theorem CB.nil (B:Nat)(w:World):CB B w [] []:=⟨rfl,fun i r y h=>by simp at h⟩
theorem CB.below {l:List It}(h:CB B w rows l)(hb:Below w.heap.size w w'):CB B w' rows l:=⟨h.len,fun i r y h1 h2=>(h.at' i r y h1 h2).below hb⟩
theorem CB.snoc {l:List It}(h:CB B w rows l)(h':FD B w r y):CB B w (rows++[r]) (l++[y]):=by
 refine⟨by simp[h.len],fun i q z h1 h2=>?_⟩;by_cases hi:i<rows.length
 ·rw[ZD hi] at h1;rw[ZD (by rw[<-h.len];exact hi)] at h2;exact h.at' i q z h1 h2
 ·rw[Zv (by omega)] at h1;rw[Zv (by rw[<-h.len];omega)] at h2;have h0:i-rows.length=0:=by have:=(Zb.1 h1).1;simp at this;omega
  rw[h0] at h1;rw[<-h.len,h0] at h2;simp at h1 h2;subst h1 h2;exact h'
theorem CB.its {l:List It}(R:Ac irs 2 t w B a n cap rows)(h:CB B w rows l):AJ B w a n l:=by
 refine⟨by rw[<-h.len];exact R.sl.len,fun i y hy=>?_⟩;have hi:i<rows.length:=by rw[h.len];exact (Zb.1 hy).1
 have hr:rows[i]?=some rows[i]:=by simp[hi]
 obtain⟨b,o,ha,hc⟩:=R.sl.cell i _ hr;have hR:=h.at' i _ y hr hy
 have he:Sf B w a:=fun _ ad e=>by
  rcases R.own with⟨h0,_⟩ | ⟨b',h1,h2,_,_,c,h3,_⟩
  ·rw[h0] at e;cases e
  ·rw[h1] at e;cases e;exact⟨h2,c,t,h3⟩
 have hb:B<=b:=by
  rcases R.own with⟨h0,_⟩ | ⟨b',h1,h2,_⟩
  ·rw[h0] at ha;cases ha
  ·rw[h1] at ha;cases ha;exact h2
 refine⟨b,o,rows[i].pa,rows[i].pn,rows[i].pc,ha,?_,hc 1 _ rfl,hR.ps,hR.hd,hb,hR.ge,hR.sf,he⟩
 have:=hc 0 _ rfl
 rw[<-hR.nm];exact this
structure Fm (B:Nat)(w:World)(r:VR)(y:Vo):Prop where
 id:r.id=y.id
 nm:r.nm=y.nm
 fx:r.fx=y.fx
 its:AJ B w r.pa r.pn y.its
 hd:Hd B r.pa r.pn r.pc
theorem Fm.below {r:VR}{y:Vo}(h:Fm B w r y)(hb:Below w.heap.size w w'):Fm B w' r y:=⟨h.id,h.nm,h.fx,h.its.below hb,h.hd⟩
structure B9 (B:Nat)(w:World)(rows:List VR)(l:List Vo):Prop where
 len:rows.length=l.length
 at':∀ (i:Nat) r y,rows[i]?=some r->l[i]?=some y->Fm B w r y
theorem B9.nil (B:Nat)(w:World):B9 B w [] []:=⟨rfl,fun i r y h=>by simp at h⟩
theorem B9.below {rows:List VR}(h:B9 B w rows l)(hb:Below w.heap.size w w'):B9 B w' rows l:=⟨h.len,fun i r y h1 h2=>(h.at' i r y h1 h2).below hb⟩
theorem B9.snoc {rows:List VR}{r:VR}{y:Vo}(h:B9 B w rows l)(h':Fm B w r y):B9 B w (rows++[r]) (l++[y]):=by
 refine⟨by simp[h.len],fun i q z h1 h2=>?_⟩;by_cases hi:i<rows.length
 ·rw[ZD hi] at h1;rw[ZD (by rw[<-h.len];exact hi)] at h2;exact h.at' i q z h1 h2
 ·rw[Zv (by omega)] at h1;rw[Zv (by rw[<-h.len];omega)] at h2;have h0:i-rows.length=0:=by have:=(Zb.1 h1).1;simp at this;omega
  rw[h0] at h1;rw[<-h.len,h0] at h2;simp at h1 h2;subst h1 h2;exact h'
theorem B9.vs {rows:List VR}(R:Ac vrs 4 t w B a n cap rows)(h:B9 B w rows l):A0 B w a n l:=by
 refine⟨by rw[<-h.len];exact R.sl.len,fun i y hy=>?_⟩;have hi:i<rows.length:=by rw[h.len];exact (Zb.1 hy).1
 have hr:rows[i]?=some rows[i]:=by simp[hi]
 obtain⟨b,o,ha,hc⟩:=R.sl.cell i _ hr;have hR:=h.at' i _ y hr hy
 have he:Sf B w a:=fun _ ad e=>by
  rcases R.own with⟨h0,_⟩ | ⟨b',h1,h2,_,_,c,h3,_⟩
  ·rw[h0] at e;cases e
  ·rw[h1] at e;cases e;exact⟨h2,c,t,h3⟩
 have hb:B<=b:=by
  rcases R.own with⟨h0,_⟩ | ⟨b',h1,h2,_⟩
  ·rw[h0] at ha;cases ha
  ·rw[h1] at ha;cases ha;exact h2
 have c0:=hc 0 _ rfl;have c1:=hc 1 _ rfl;have c2:=hc 2 _ rfl;have c3:=hc 3 _ rfl;refine⟨b,o,rows[i].pa,rows[i].pn,rows[i].pc,ha,?_,?_,?_,c3,hR.its,hR.hd,hb,he⟩
 ·rw[<-hR.id];exact c0
 ·rw[<-hR.nm];exact c1
 ·rw[<-hR.fx];exact c2
theorem kb_ {l:List α}(h:As cs sz w a n l)(hg:w.grownBy w' row)(hr:∀ ad,a=some ad->some ad.block≠row):As cs sz w' a n l:=by
 refine⟨h.len,fun i x hx=>?_⟩;obtain⟨b,o,ha,hc⟩:=h.cell i x hx;exact⟨b,o,ha,fun j v hv=>hg.cell (hc j v hv) (hr ⟨b,o,none⟩ ha)⟩
theorem kc_ {c':Array Value}(h:Blk w b c t)(h':Blk w b c' t'):t=t':=by
 unfold Blk at h h';rw[h] at h';injection h' with e;injection e
def Bt (w:World)(row:Option Nat)(t:TypeId):Prop:=∀ k,row=some k->∃ c,Blk w k c t
theorem hA_:Bt w none t:=fun k e=>by cases e
theorem aa_ (h:Blk w b c t):Bt w (some b) t:=fun k e=>by cases e;exact⟨c,h⟩
theorem Ac.rowTy {l:List α}(h:Ac cs sz t w B a n cap l){m:Nat}:Bt w (Value.ownBlock (.slice a m k)) t:=by
 rcases h.own with⟨rfl,_⟩ | ⟨b,rfl,_,_,_,c,hc,_⟩
 ·intro k e;simp[Value.ownBlock] at e
 ·intro k e;simp[Value.ownBlock] at e;subst e;exact⟨c,hc⟩
theorem Ac.off {l:List α}(h:Ac cs sz t w B a n cap l)(hg:w.grownBy w' row)(hr:∀ ad,a=some ad->some ad.block≠row):Ac cs sz t w' B a n cap l:=by
 refine⟨kb_ h.sl hg hr,?_⟩;rcases h.own with h0 | ⟨b,ha,hB,h1,h2,c,hc,q⟩
 ·exact .inl h0
 ·exact .inr ⟨b,ha,hB,h1,h2,c,(hg.block _ hc.lt (hr _ ha)).trans hc,q⟩
theorem Ac.ty {l:List α}(h:Ac cs sz t w B a n cap l)(hg:w.grownBy w' row)(hr:Bt w row t')(ht:t≠t'):Ac cs sz t w' B a n cap l:=by
 refine h.off hg (fun ad e hc=>?_);obtain⟨c',h'⟩:=hr _ hc.symm;rcases h.own with⟨h0,_⟩ | ⟨b,ha,_,_,_,c,hb,_⟩
 ·rw[h0] at e;cases e
 ·rw[ha] at e;cases e;exact ht (kc_ hb h')
theorem Blk.ty (h:Blk w b c t)(hg:w.grownBy w' row)(hr:Bt w row t')(ht:t≠t'):Blk w' b c t:=by
 refine (hg.block _ h.lt (fun e=>?_)).trans h;obtain⟨c',h'⟩:=hr _ e.symm;exact ht (kc_ h h')
theorem Blk.offB (h:Blk w b c t)(hg:w.grownBy w' row)(hr:∀ k,row=some k->B<=k)(hb:b<B):Blk w' b c t:=
 (hg.block _ h.lt (fun e=>by have:=hr b e.symm;omega)).trans h
theorem kd_ (hsz:∀ x,(cs x).length=sz)(hj:j<sz)(hx':cs x'=(cs x).set j v):∀ {l:List α} {i:Nat},l[i]?=some x->(l.set i x').flatMap cs=(l.flatMap cs).set (i*sz+j) v
 |[],i,h=>by simp at h
 |y::r,0,h=>by
  obtain rfl:y=x:=by simpa using h
  rw[Yq,ZF,ZF,hx',Nat.zero_mul,Zq,List.set_append_left _ _ (by rw[hsz];exact hj)]
 |y::r,i+1,h=>by
  rw[Yr,ZF,ZF,kd_ hsz hj hx' (by simpa using h),List.set_append_right _ _ (by rw[hsz,Yd];omega),hsz,show (i+1)*sz+j-sz=i*sz+j by rw[Yd];omega]
theorem Ac.set1 (hsz:∀ x,(cs x).length=sz){l:List α}(h:Ac cs sz t w B (some ⟨b,0,none⟩) n cap l)(hi:l[i]?=some x)(hj:j<sz)(hx':cs x'=(cs x).set j v):
  Ac cs sz t (w.setCell ⟨b,i*sz+j,none⟩ v) B (some ⟨b,0,none⟩) n cap (l.set i x'):=by
 have hk:=(Zb.1 hi).1;have hg:=h.sl.len;rcases h.own with⟨h0,_⟩ | ⟨b',ha,hB,hh,hf,c,hc,hs,ht⟩
 ·cases h0
 ·cases ha
  have hb:(l.set i x').length=n:=by rw[List.length_set];exact hg
  have he:(w.setCell ⟨b,i*sz+j,none⟩ v).ownsRow B t sz (.slice (some ⟨b,0,none⟩) n cap) n ((l.set i x').flatMap cs):=by
   refine⟨by rw[aY_ hsz,hb],.inr ⟨b,cap,_,rfl,hB,hc.set (i*sz+j) v,hh,hf,by simp[hs],?_⟩⟩;rw[Array.toList_setIfInBounds,List.take_set,ht,kd_ hsz hj hx' hi]
  obtain⟨a',cap',e,R⟩:=bz_ hsz hb he
  cases e
  exact R
def DK (l:List Vo):Prop:=l.length<=6∧∀ v∈l,v.its.length<=5∧∀ x∈v.its,x.ps.length<=16∧∀ p∈x.ps,0<=p.a
def DW (l:List Vo):Prop:=l.length<=7∧∀ v∈l,v.its.length<=6∧∀ x∈v.its,x.ps.length<=1000∧∀ p∈x.ps,0<=p.a
theorem DK.wide (h:DK l):DW l:=⟨by have:=h.1;omega,fun v hv=>⟨by have:=(h.2 v hv).1;omega,fun x hx=>⟨by have:=((h.2 v hv).2 x hx).1;omega,((h.2 v hv).2 x hx).2⟩⟩⟩
theorem ke_ (l a b:List Ct):AQ l (a++b)=AQ (AQ l a) b:=by simp[AQ]
theorem gI_ {id:Int}{nm:ByteArray}{ps:List Pt}{p:Pt}(h:ps[j]?=some p):AR id nm (ps.take (j+1))=AR id nm (ps.take j)++(if p.a==0 then [] else [⟨⟨p.a,id,nm⟩,1⟩]):=by
 unfold AR;rw[bx_ h,YR,List.map_append]
 cases hp:(p.a==0)<;>simp[hp]
def AY (v:Vo)(l:List It):List Ct:=l.flatMap (fun x=>AR v.id x.nm x.ps)
theorem fq_ {v:Vo}{l:List It}{x:It}(h:l[k]?=some x):AY v (l.take (k+1))=AY v (l.take k)++AR v.id x.nm x.ps:=by
 unfold AY;rw[bx_ h,ZQ];simp
theorem lE_ {v:Vo}(h:l[i]?=some v):A6 (l.take (i+1))=A6 (l.take i)++AY v v.its:=by
 unfold A6;rw[bx_ h,ZQ];simp[Dv,AY]
structure Fnd (w:World)(B:Nat)(out:Value)(L:List Ct)(M:Nat):Prop where
 at':∃ a n cap,out=.slice a n cap∧n<=M∧Ac Ct.cs 4 107 w B a n cap L
 bd:∀ x∈L,-(1000*(M:Int))<=x.n∧x.n<=1000*(M:Int)
theorem Fnd.below (h:Fnd w B out L M)(hb:Below w.heap.size w w'):Fnd w' B out L M:=by
 obtain⟨⟨a,n,cap,e,hn,R⟩,ha⟩:=h;exact⟨⟨a,n,cap,e,hn,R.below hb⟩,ha⟩
theorem Fnd.mono {M':Nat}(h:Fnd w B out L M)(hM:M<=M'):Fnd w B out L M':=by
 obtain⟨⟨a,n,cap,e,hn,R⟩,ha⟩:=h;exact⟨⟨a,n,cap,e,by omega,R⟩,fun x hx=>by have:=ha x hx;omega⟩
theorem bA_ (B:Nat)(a:Option Addr)(n cap:Nat)(vs:List Vo)(w:World)(h:A0 B w a n vs)(ht:DW vs):
  Calls prog 56 #[.slice a n cap] w fun e w'=>(∃ a' n' cap',e=.returned (.slice a' n' cap')∧n'<=42000∧(∀ x∈Az vs,-42000000<=x.n∧x.n<=42000000)∧Ac Ct.cs 4 107 w' w.heap.size a' n' cap' (Az vs))∧Below w.heap.size w w':=by
 have hg:Hid (vs.length=n):=h.len;have hN:n<=7:=by rw[<-hg.out];exact ht.1
 go_enter func56,ntmps56
 go_wp2_with fail
 go_loopw [3,4] (fun out ix wr=>∃ (i:Nat),i<=n∧ix=.int .i64 i∧Fnd wr w.heap.size out (AQ [] (A6 (vs.take i))) (6000*i)∧Below w.heap.size w wr) (fun _ ix _=>n-(intOf ix).toNat)
 case atStart=>exact⟨0,Zg _,rfl,⟨⟨_,0,0,rfl,Zg _,aw_ (Blk.new' _ _ _ _ rfl) (Zd _)⟩,fun x hx=>by cases hx⟩,(Yg _ _).alloc (Zd _) _⟩
 case round=>
  obtain⟨i,hi,rfl,hF,hB⟩:=hrel;obtain⟨wi,hC⟩:∃ x,x=wr:=⟨_,rfl⟩;subst hC;by_cases hlt:i<n
  ·obtain⟨b,o,v,ia,inn,icp,rfl,hv,c0,c1,c2,c3,hI,_,_⟩:=b5_ (h.below hB) hlt;obtain⟨t1,t2⟩:=ht.2 v (Zc hv);have hr:Hid (v.its.length=inn):=hI.len;rw[hr.out] at t1;have hE:(i:Int)<n:=by omega
   have hG:(0:Int)<=i:=by omega
   have hl:Hid (A6 (vs.take (i+1))=A6 (vs.take i)++AY v v.its):=lE_ hv;clear hv;generalize A6 (vs.take i)=PA at *
   go_wp2_with fail
   go_loopw [3,5] (fun out ix wk=>∃ (k:Nat),k<=inn∧ix=.int .i64 k∧Fnd wk w.heap.size out (AQ [] (PA++AY v (v.its.take k))) (6000*i+1000*k)∧Below wi.heap.size wi wk) (fun _ ix _=>inn-(intOf ix).toNat)
   case atStart=>exact⟨0,Zg _,rfl,by simpa[AY] using hF,Yg _ _⟩
   case round=>
    clear hF;obtain⟨k,hk,rfl,hF,hc⟩:=hrel;obtain⟨wk,hD⟩:∃ x,x=wr:=⟨_,rfl⟩;subst hD;have e0:=Ab hc c0;have e3:=Ab hc c3;by_cases hlk:k<inn
    ·obtain⟨b',o',x,pa,pn,pc,rfl,hx,d0,d1,hP,_,_,_⟩:=bO_ (hI.below hc) hlk;obtain⟨u1,u2⟩:=t2 x (Zc hx);have hs:Hid (x.ps.length=pn):=hP.len;rw[hs.out] at u1;have hK:(k:Int)<inn:=by omega
     have hL:(0:Int)<=k:=by omega
     have hm:Hid (AY v (v.its.take (k+1))=AY v (v.its.take k)++AR v.id x.nm x.ps):=fq_ hx;clear hx;generalize AY v (v.its.take k)=PI at *
     go_wp2_with fail
     have he:Below wk.heap.size wk (wk.alloc (.cells #[.string x.nm,.slice pa pn pc] 156)):=by go_grown
     have X0:(wk.alloc (.cells #[.string x.nm,.slice pa pn pc] 156)).cell? ⟨wk.heap.size,0,none⟩=some (.string x.nm):=(Blk.new wk #[.string x.nm,.slice pa pn pc] 156).cell 0;have X1:(wk.alloc (.cells #[.string x.nm,.slice pa pn pc] 156)).cell? ⟨wk.heap.size,1,none⟩=some (.slice pa pn pc):=(Blk.new wk #[.string x.nm,.slice pa pn pc] 156).cell 1;have E0:=Ab he e0;have hy:=hP.below he;have hq:=hF.below he;generalize wk.alloc (.cells #[.string x.nm,.slice pa pn pc] 156)=W0 at *
     go_loopw [3,7] (fun out ix wj=>∃ (j:Nat),j<=pn∧ix=.int .i64 j∧Fnd wj w.heap.size out (AQ [] (PA++PI++AR v.id x.nm (x.ps.take j))) (6000*i+1000*k+j)∧Below W0.heap.size W0 wj) (fun _ ix _=>pn-(intOf ix).toNat)
     case atStart=>exact⟨0,Zg _,rfl,by simpa[AR] using hq,Yg _ _⟩
     case round=>
      clear hF hq;obtain⟨j,hj,rfl,hF,ha⟩:=hrel;have x0:=Ab ha X0;have x1:=Ab ha X1;have y0:=Ab ha E0;by_cases hlj:j<pn
      ·obtain⟨b2,o2,p,rfl,hp,f0,f1,f2⟩:=bi_ (hy.below ha) hlj;have hO:=u2 p (Zc hp);have hb:Hid (AR v.id x.nm (x.ps.take (j+1))=AR v.id x.nm (x.ps.take j)++(if p.a==0 then [] else [⟨⟨p.a,v.id,x.nm⟩,1⟩])):=gI_ hp;clear hp;generalize AR v.id x.nm (x.ps.take j)=PP at *;have hH:(j:Int)<pn:=by omega
       have hJ:(0:Int)<=j:=by omega
       by_cases hz:0<p.a
       ·have hn:(p.a==0)=false:=ZV.2 (by omega);rw[hn] at hb;simp only[Zj,if_false] at hb;obtain⟨⟨a2,n2,cap2,rfl,hA,R⟩,hf⟩:=hF
        go_wp2_with fail
        refine aE_ 16 (by kernel_rfl) (by kernel_rfl) ?_;simp only[ZP,Yx,ZR,YC]
        repeat still_step
        refine wpStill_nil ?_
        go_wp2_with fail
        have hh:=(Yg wr.heap.size wr).drew;refine (hr_ a2 n2 cap2 _ ⟨⟨p.a,v.id,x.nm⟩,1⟩ _ (R.sl.below hh) (by omega) (fun z ho=>by have:=hf z ho;omega) (by simp)).mono ?_;rintro e w3 ⟨⟨a3,n3,cap3,rfl,hM,R3⟩,hu⟩;have hw:Below wr.heap.size wr w3:=Aa hh hu;have hQ:=hB.size;have hR:=hc.size;have hS:=he.size;have hT:=ha.size;have hU:=hh.size;go_wp2;go_roundw
        case rel=>
         refine⟨j+1,by omega,by go_num,⟨⟨a3,n3,cap3,rfl,by omega,?_⟩,?_⟩,Aa ha hw⟩
         ·rw[hb.out,<-ZC,ke_];exact R3.mono (by omega)
         ·rw[hb.out,<-ZC,ke_];intro z ho
          have:=lD_ (B:=1000*((6000*i+1000*k+j:Nat):Int)) (by omega) (c:=⟨⟨p.a,v.id,x.nm⟩,1⟩) (by simp) (by simp) hf z ho
          omega
        case measure=>simp[intOf];omega
       ·have hn:(p.a==0)=true:=by simp;omega
        rw[hn] at hb;simp only[if_true,Yy] at hb;go_wp2;go_roundw
        case rel=>exact⟨j+1,by omega,by go_num,by rw[hb.out];exact hF.mono (by omega),ha⟩
        case measure=>simp[intOf];omega
      ·obtain rfl:j=pn:=by omega
       go_wp2;go_roundw
       case rel=>
        refine⟨k+1,by omega,by go_num,?_,Aa hc (Aa he ha)⟩;rw[hm.out,<-ZC];rw[Zk (Zm hs.out)] at hF;exact hF.mono (by omega)
       case measure=>simp[intOf];omega
    ·obtain rfl:k=inn:=by omega
     go_wp2;go_roundw
     case rel=>
      refine⟨i+1,by omega,by go_num,?_,Aa hB hc⟩;rw[hl.out,<-Zk (l:=v.its) (Zm hr.out)];exact hF.mono (by omega)
     case measure=>simp[intOf];omega
  ·obtain rfl:i=n:=by omega
   obtain⟨⟨a2,n2,cap2,rfl,hA,R⟩,hf⟩:=hF;go_wp2;go_returns;rw[Zk (Zm hg.out)] at R hf;exact⟨⟨a2,n2,cap2,rfl,by omega,(fun x hx=>by have:=hf x hx;omega),R⟩,hB⟩
theorem ir_ (B:Nat)(a:Option Addr)(n cap:Nat)(vs:List Vo)(w:World)(h:A0 B w a n vs)(ht:DK vs):
  Calls prog 56 #[.slice a n cap] w fun e w'=>(∃ a' n' cap',e=.returned (.slice a' n' cap')∧n'<=42000∧Ac Ct.cs 4 107 w' w.heap.size a' n' cap' (Az vs))∧Below w.heap.size w w':=by
 refine (bA_ B a n cap vs w h ht.wide).mono ?_;rintro e w' ⟨⟨a',n',cap',he,hn,_,R⟩,hB⟩;exact⟨⟨a',n',cap',he,hn,R⟩,hB⟩
end
section
open Go.RowKit Go.BigFrame Go.Lib Tryz
variable{xs:List Value}{B e n:Nat}{v:Value}{w:World}
def FE (e:Ending):Option ByteArray->Prop
 |none=>e=.returned (.tuple #[.string ⟨#[]⟩,.bool false])
 |some s=>e=.returned (.tuple #[.string s,.bool true])
theorem d4_ (x y:ByteArray):strCells x++strCells y=strCells (x++y):=by
 simp[strCells]
theorem Gy:(prog.info? 5).map (fun i=>(i.zero,i.size,i.bytes))=some (some (.int .u8 0),1,1):=by kernel_rfl
theorem iF_ (h:w.ownsRow B e 1 v n xs):∀ k,v.ownBlock=some k->B<=k:=by
 rcases h.2 with⟨rfl,_⟩ | ⟨g,cap,cur,rfl,hB,_⟩
 ·intro k hk;cases hk
 ·intro k hk;simp[Value.ownBlock] at hk;omega
theorem iG_ {w':World}(h:w.ownsRow B e 1 v n xs)(hb:Below w.heap.size w w'):w'.ownsRow B e 1 v n xs:=by
 refine⟨h.1,?_⟩;rcases h.2 with h0 | ⟨g,cap,cur,h1,h2,h3,h4⟩
 ·exact .inl h0
 ·exact .inr ⟨g,cap,cur,h1,h2,by rw[hb.block g (ZG.1 h3).1];exact h3,h4⟩
theorem iH_ (h:w.ownsRow B e 1 v n xs):∃ a cap,v=.slice a n cap:=by
 rcases h.2 with⟨rfl,rfl⟩ | ⟨g,cap,cur,rfl,_⟩
 ·exact⟨none,0,rfl⟩
 ·exact⟨_,_,rfl⟩
theorem fO_ (a:Option Addr)(n cap:Nat)(l:List Pt)(a':Option Addr)(n' cap':Nat)(e:List Ex)(w:World)(h:AE w a n l)(h':A3 w a' n' e)(hstr:BE e)(hn:n<=4194304)(hn':n'<=4194304):
  Calls prog 170 #[.slice a n cap,.slice a' n' cap'] w fun x w'=>FE x (Ar l e)∧Below w.heap.size w w':=by
 have hr:Hid (l.length=n):=h.len
 cases hl:Ae l
 ·have hf:Ar l e=none:=by simp[Ar,hl]
  rw[hf];go_enter func170,ntmps170
  go_wp2_with fail
  refine (as_ a n cap l _ h hn).mono ?_;rintro x w1 ⟨rfl,hh⟩;rw[hl];go_wp2;go_returns;exact⟨rfl,hh⟩
 ·cases hg:Ak 400 e
  ·have hf:Ar l e=none:=by simp[Ar,hg]
   rw[hf];go_enter func170,ntmps170
   go_wp2_with fail
   refine (as_ a n cap l _ h hn).mono ?_;rintro x w1 ⟨rfl,hh⟩;rw[hl]
   go_wp2_with fail
   refine (a8_ 400 a' n' cap' e _ (h'.below hh) hstr hn').mono ?_;rintro x w2 ⟨rfl,ho⟩;rw[hg];have hj:=Aa hh ho;go_wp2;go_returns;exact⟨rfl,hj⟩
  ·have hf:Hid (Ar l e=cgo e ⟨#[]⟩ (l.drop 0)):=by show _=_;simp[Ar,hl,hg]
   obtain⟨hx,hw⟩:=gd_ hl;have hH:n<=16:=by rw[<-hr.out];exact hx
   obtain⟨i0,hi,hz,hA,hC⟩:=info_parts Gy;generalize Ar l e=R at *;go_enter func170,ntmps170
   go_wp2_with fail
   refine (as_ a n cap l _ h hn).mono ?_;rintro x w1 ⟨rfl,hh⟩;rw[hl]
   go_wp2_with fail
   refine (a8_ 400 a' n' cap' e _ (h'.below hh) hstr hn').mono ?_;rintro x w2 ⟨rfl,ho⟩;rw[hg];replace ho:=Aa hh ho
   go_wp2_with fail
   go_loopw [6,20] (fun out ix wr=>∃ (k m:Nat) (s:ByteArray) (a2:Option Addr) (cap2:Nat),k<=n∧ix=.int .i64 k∧m<=100*k∧out=.slice a2 m cap2∧wr.ownsRow w.heap.size 5 1 (.slice a2 m cap2) m (strCells s)∧Hid (R=cgo e s (l.drop k))∧Below w.heap.size w wr) (fun _ ix _=>n-(RowKit.intOf ix).toNat)
   case atStart=>exact⟨0,0,⟨#[]⟩,none,0,Zg _,rfl,Zg _,rfl,World.ownsRow_nil _ _ _ _,hf,ho⟩
   case round=>
    obtain⟨k,m,s,a2,cap2,hk,rfl,hm,rfl,hc,hI,hB⟩:=hrel;have hP:=hB.size;by_cases hlt:k<n
    ·obtain⟨b,o,p,rfl,hp,c0,c1,c2⟩:=bi_ (h.below hB) hlt;have hd:Hid (l.drop k=p::l.drop (k+1)):=al_ hp;obtain⟨hN,hO,hK⟩:=hw p (Zc hp);obtain⟨pa,pf,pn⟩:=p;dsimp only at *;obtain⟨pk,rfl⟩:∃ pk:Nat,pn=pk:=⟨pn.toNat,by omega⟩
     cases ha:(pa==0)
     ·have hJ:pa≠0:=by simpa using ha
      obtain⟨f0,f20⟩:=hK hJ;obtain⟨fk,rfl⟩:∃ fk:Nat,pf=fk:=⟨pf.toNat,by omega⟩;have hv:Hid (R=match pieceO e ⟨pa,fk,pk⟩ with | none=>none | some d=>cgo e (s++d) (l.drop (k+1))):=by show _=_;rw[hI.out,hd.out];rfl
      have hu:Hid (pieceO e ⟨pa,fk,pk⟩=if ((AO pa e).size:Int)<fk+pk then none else some ((AO pa e).extract fk (fk+pk))):=by
       show _=_;simp only[pieceO,ha,Zj,if_false,Int.toNat_natCast];rw[show ((fk:Int)+(pk:Int)).toNat=fk+pk by omega]
      have hD:=ek_ (addr:=pa) hstr
      go_wp2_with fail
      refine (jS_ a' n' cap' e pa _ ((h'.below hB).alloc _) hn').mono ?_;rintro x w3 ⟨rfl,hj⟩;generalize AO pa e=D at *;obtain⟨z0,z1,z2,hq,_⟩:=CS hj;clear hj c0 c1 c2;have hb:=iG_ hc hq;have ht:=Aa hB hq;clear hc;by_cases hlt2:(D.size:Int)<fk+pk
      ·rw[if_pos hlt2] at hu;go_wp2;go_returns;rw[hv.out,hu.out];exact⟨rfl,ht⟩
      ·rw[if_neg hlt2] at hu;have hM:(fk:Int)+(pk:Int)<=D.size:=by omega
       have hL:=run_slice_string (P:=prog) (w:=w3) 9 D .i64 .i64 fk (fk+pk) underlying9 (by omega) (by omega) (by omega);rw[show ((fk:Int)+(pk:Int)).toNat=fk+pk by omega,Int.toNat_natCast] at hL;have hQ:(D.extract fk (fk+pk)).size=pk:=by rw[ByteArray.size_extract];omega
       generalize D.extract fk (fk+pk)=X at *
       go_wp2_with (at_builtin;refine wpList_append_own_string _ rfl _ _ 150 9 rfl w.heap.size 5 i0 underlying150 underlying9 hi hz hA hC _ m (strCells s) rfl hb X rfl (by unfold maxLen;omega) (by omega) ht.size ?_;intro v5 w5 he hG _)
       obtain⟨a3,cap3,rfl⟩:=iH_ he;rw[d4_] at he;have hE:Below w.heap.size w w5:=ht.grown hG ht.size (iF_ hb);go_roundw
       case rel=>exact⟨k+1,m+X.size,s++X,a3,cap3,by omega,by go_num,by omega,rfl,he,by show _=_;rw[hv.out,hu.out],hE⟩
       case measure=>simp[RowKit.intOf];omega
     ·have hv:Hid (R=cgo e (s++zs pk) (l.drop (k+1))):=by
       show _=_;rw[hI.out,hd.out];simp[cgo,pieceO,ha]
      have hs:∀ x,(wr.alloc x).ownsRow w.heap.size 5 1 (.slice a2 m cap2) m (strCells s):=fun x=>iG_ hc ((Yg _ _).alloc (Zd _) _)
      go_wp2_with (at_builtin;refine eY_ _ rfl _ _ 150 2 9 rfl w.heap.size 5 i0 .i64 underlying150 underlying2 underlying9 hi hz hA hC _ m (strCells s) rfl (hs _) .i64 pk rfl (by omega) (by omega) (by simp;omega) ?_;intro v3 w3 hb hF)
      obtain⟨a3,cap3,rfl⟩:=iH_ hb;rw[d4_] at hb;have hj:Below w.heap.size w w3:=Yi (by go_grown) hF (by simp;omega) (iF_ hc);go_roundw
      case rel=>exact⟨k+1,m+pk,s++zs pk,a3,cap3,by omega,by go_num,by omega,rfl,hb,hv,hj⟩
      case measure=>simp[RowKit.intOf];omega
    ·obtain rfl:k=n:=by omega
     have hy:=jO_ (P:=prog) hc 150 underlying150 underlying5 9 underlying9;go_wp2;go_returns;rw[hI.out,Ze (by rw[hr.out];exact Zd _)];exact⟨rfl,hB⟩
theorem kf_ (addr:Int):∀ (l:List Ex) (k:Nat),(atG addr k l=-1∧AO addr l=⟨#[]⟩)∨∃ (j:Nat) (x:Ex),l[j]?=some x∧atG addr k l=(k:Int)+j∧AO addr l=x.d
 |[],k=>.inl ⟨rfl,rfl⟩
 |e::r,k=>by
  unfold atG AO;split
  ·rename_i h;exact .inr ⟨0,e,rfl,by simp,rfl⟩
  ·rename_i h;rcases kf_ addr r (k+1) with⟨h1,h2⟩ | ⟨j,x,h1,h2,h3⟩
   ·exact .inl ⟨h1,h2⟩
   ·exact .inr ⟨j+1,x,by simpa using h1,by rw[h2];omega,h3⟩
theorem eo_ (a:Option Addr)(n cap:Nat)(l:List Pt)(a':Option Addr)(n' cap':Nat)(e:List Ex)(w:World)(h:AE w a n l)(h':A3 w a' n' e)(hstr:BE e)(hn:n<=16)(hn':n'<=4194304)(hall:∀ p∈l,1<=p.n∧p.n<=100∧(p.a≠0->0<=p.f∧p.f<20)):
  Calls prog 102 #[.slice a n cap,.slice a' n' cap'] w fun x w'=>FE x (cgo e ⟨#[]⟩ l)∧Below w.heap.size w w':=by
 have hg:Hid (l.length=n):=h.len;have hf:Hid (cgo e ⟨#[]⟩ l=cgo e ⟨#[]⟩ (l.drop 0)):=rfl;generalize cgo e ⟨#[]⟩ l=R at *;obtain⟨i0,hi,hx,hy,hz⟩:=info_parts Gy;go_enter func102,ntmps102
 go_wp2_with fail
 go_loopw [6,7] (fun out ix wr=>∃ (k:Nat) (s:ByteArray),k<=n∧ix=.int .i64 k∧s.size<=100*k∧out=.string s∧Hid (R=cgo e s (l.drop k))∧Below w.heap.size w wr) (fun _ ix _=>n-(RowKit.intOf ix).toNat)
 case atStart=>exact⟨0,⟨#[]⟩,Zg _,rfl,by simp[ByteArray.size],rfl,hf,Yg _ _⟩
 case round=>
  obtain⟨k,s,hk,rfl,hm,rfl,hI,hB⟩:=hrel;have hw:=hB.size;by_cases hlt:k<n
  ·obtain⟨b,o,p,rfl,hp,c0,c1,c2⟩:=bi_ (h.below hB) hlt;have hd:Hid (l.drop k=p::l.drop (k+1)):=al_ hp;obtain⟨hH,hJ,hu⟩:=hall p (Zc hp);obtain⟨pa,pf,pn⟩:=p;dsimp only at *;obtain⟨pk,rfl⟩:∃ pk:Nat,pn=pk:=⟨pn.toNat,by omega⟩
   cases ha:(pa==0)
   ·have ht:pa≠0:=by simpa using ha
    obtain⟨f0,f20⟩:=hu ht;obtain⟨fk,rfl⟩:∃ fk:Nat,pf=fk:=⟨pf.toNat,by omega⟩;have hc:Hid (R=match pieceO e ⟨pa,fk,pk⟩ with | none=>none | some d=>cgo e (s++d) (l.drop (k+1))):=by show _=_;rw[hI.out,hd.out];rfl
    have hb:Hid (pieceO e ⟨pa,fk,pk⟩=if ((AO pa e).size:Int)<fk+pk then none else some ((AO pa e).extract fk (fk+pk))):=by
     show _=_;simp only[pieceO,ha,Zj,if_false,Int.toNat_natCast];rw[show ((fk:Int)+(pk:Int)).toNat=fk+pk by omega]
    have hD:=ek_ (addr:=pa) hstr
    go_wp2_with fail
    refine (iC_ a' n' cap' e pa _ ((h'.below hB).alloc _) hn').mono ?_;rintro x w3 ⟨rfl,rfl⟩;rcases kf_ pa e 0 with⟨g1,g2⟩ | ⟨j,x,g1,g2,g3⟩
    ·rw[g1];rw[g2,if_pos (by simp[ByteArray.size];omega)] at hb;clear hI hd hp c0 c1 c2
     go_wp2_with fail
     go_quiet (fail)
     go_wp2;go_returns;rw[hc.out,hb.out];exact⟨rfl,below_drewN (by go_grown) _⟩
    ·rw[g2,show ((0:Nat):Int)+(j:Int)=j by omega];rw[g3] at hb hD;have hj:j<n':=by rw[<-h'.len];exact (Zb.1 g1).1
     obtain⟨b',o',x',rfl,hr,y0,y1⟩:=be_ ((h'.below hB).alloc (.cells #[.int .i64 pa,.int .i64 fk,.int .i64 pk] 162)) hj;rw[g1] at hr;obtain rfl:=Zi hr;have hl:Below w.heap.size w (wr.alloc (.cells #[.int .i64 pa,.int .i64 fk,.int .i64 pk] 162)):=hB.alloc hw _;have z0:(wr.alloc (.cells #[.int .i64 pa,.int .i64 fk,.int .i64 pk] 162)).cell? ⟨wr.heap.size,0,none⟩=some (.int .i64 pa):=by simp
     have z1:(wr.alloc (.cells #[.int .i64 pa,.int .i64 fk,.int .i64 pk] 162)).cell? ⟨wr.heap.size,1,none⟩=some (.int .i64 fk):=by simp
     have z2:(wr.alloc (.cells #[.int .i64 pa,.int .i64 fk,.int .i64 pk] 162)).cell? ⟨wr.heap.size,2,none⟩=some (.int .i64 pk):=by simp
     clear c0 c1 c2 hI hd hp g1 g2 g3;generalize wr.alloc (.cells #[.int .i64 pa,.int .i64 fk,.int .i64 pk] 162)=W at *;obtain⟨xa,D⟩:=x;dsimp only at *;have hC:(0:Int)<=j:=by omega
     have hE:(j:Int)<n':=by omega
     have hF:decide ((j:Int)<0)=false:=by simp
     by_cases hlt2:(D.size:Int)<fk+pk
     ·rw[if_pos hlt2] at hb
      go_wp2_with fail
      go_quiet (fail)
      go_wp2;go_returns;rw[hc.out,hb.out];exact⟨rfl,below_drewN hl _⟩
     ·rw[if_neg hlt2] at hb;have hG:(fk:Int)+(pk:Int)<=D.size:=by omega
      have hv:=fun W'=>run_slice_string (P:=prog) W' 9 D .i64 .i64 fk (fk+pk) underlying9 (by omega) (by omega) (by omega);rw[show ((fk:Int)+(pk:Int)).toNat=fk+pk by omega,Int.toNat_natCast] at hv;have hK:(D.extract fk (fk+pk)).size=pk:=by rw[ByteArray.size_extract];omega
      generalize D.extract fk (fk+pk)=X at *
      go_wp2_with fail
      go_quiet (fail)
      have hs:=below_drewN hl nq;replace z0:(W.drewN nq).cell? ⟨wr.heap.size,0,none⟩=some (.int .i64 pa):=z0;replace z1:(W.drewN nq).cell? ⟨wr.heap.size,1,none⟩=some (.int .i64 fk):=z1;replace z2:(W.drewN nq).cell? ⟨wr.heap.size,2,none⟩=some (.int .i64 pk):=z2;replace y1:(W.drewN nq).cell? ⟨b',o'+j*2+1,none⟩=some (.string D):=y1;clear y0;generalize W.drewN nq=W1 at *
      go_wp2_with fail
      go_quiet (fail)
      go_wp2;go_roundw
      case rel=>exact⟨k+1,s++X,by omega,by go_num,by rw[ByteArray.size_append];omega,rfl,by show _=_;rw[hc.out,hb.out],below_drewN hs _⟩
      case measure=>simp[RowKit.intOf];omega
   ·have hc:Hid (R=cgo e (s++zs pk) (l.drop (k+1))):=by
     show _=_;rw[hI.out,hd.out];simp[cgo,pieceO,ha]
    have hq:∀ u:World,(Instr.makeSlice 150 (.int .i64 (pk:Int)) (.int .i64 (pk:Int))).run prog u=.ok (.slice (some ⟨u.heap.size,0,none⟩) pk pk) (u.alloc (.cells (strCells (zs pk)).toArray 5)):=fun u=>by
     have hm:=run_make (P:=prog) u 150 5 i0 (.int .u8 0) underlying150 hi hx .i64 .i64 (pk:Int) (pk:Int) (by omega) (YB _) (by rw[hz];omega) (by omega);rw[jN_];simpa[hy,Value.cells,madeCells,Builtin.zeroCells] using hm
    have ho:∀ u:World,(convert 150 9 (.slice (some ⟨u.heap.size,0,none⟩) pk pk)).run prog (u.alloc (.cells (strCells (zs pk)).toArray 5))=.ok (.string (zs pk)) (u.alloc (.cells (strCells (zs pk)).toArray 5)):=fun u=>
     jO_ (B:=0) (e:=5) (n:=pk) ⟨by rw[strCells_length,ca_,Nat.mul_one],.inr ⟨u.heap.size,pk,_,rfl,Zg _,Blk.new u _ 5,Zd _,by unfold maxLen;omega,by simp[strCells_length,ca_],by rw[Nat.mul_one,Zk (by simp[strCells_length,ca_])]⟩⟩ 150 underlying150 underlying5 9 underlying9
    have hh:=hq (wr.alloc (.cells #[.int .i64 pa,.int .i64 pf,.int .i64 pk] 162));have he:=ho (wr.alloc (.cells #[.int .i64 pa,.int .i64 pf,.int .i64 pk] 162));rw[show (wr.alloc (.cells #[.int .i64 pa,.int .i64 pf,.int .i64 pk] 162)).heap.size=wr.heap.size+1 by simp] at hh he;have hA:=ca_ pk;generalize zs pk=Z at *;clear hq ho;go_wp2;go_roundw
    case rel=>exact⟨k+1,s++Z,by omega,by go_num,by rw[ByteArray.size_append];omega,rfl,hc,by go_grown⟩
    case measure=>simp[RowKit.intOf];omega
  ·obtain rfl:k=n:=by omega
   go_wp2;go_returns;rw[hI.out,Ze (by rw[hg.out];exact Zd _)];exact⟨rfl,hB⟩
end
section
open Go Go.RowKit Go.BigFrame Tryz
def BW (l:List It)(k:Nat):Option It:=if k=0 then none else l[k-1]?
theorem hB_ (l:List It)(k:Nat):BW l (k+1)=l[k]?:=by simp[BW]
theorem jm_ {ps:List Pt}{e:List Ex}(h:Ak 400 e=true):(Ar ps e).isSome=(Ae ps&&(cgo e ⟨#[]⟩ ps).isSome):=by
 unfold Ar
 cases hp:Ae ps<;>simp[h]
theorem lF_ (B:Nat)(v:Vo)(pa:Option Addr)(pn pc:Nat)(ea:Option Addr)(en ec:Nat)(e:List Ex)(w:World)(h:AJ B w pa pn v.its)(he:A3 w ea en e)(hstr:BE e)(hen:en<=4194304)(hsp:Ak 400 e=true)(hnm:v.nm.size<=9223372036854775807)(hpn:pn<=4194304)(hI:Fy v.its):
  Calls prog 53 #[.agg #[.int .i64 v.id,.string v.nm,.bool v.fx,.slice pa pn pc],.slice ea en ec] w fun x w'=>x=.returned (.bool (nameB v.nm&&itemsB v.its e))∧Below w.heap.size w w':=by
 obtain⟨id,nm,fx,its⟩:=v;simp only at h hnm hI ⊢;have hr:Hid (its.length=pn):=h.len
 cases hw:nameB nm
 ·go_enter func53,ntmps53
  go_wp2_with fail
  refine (aq_ nm _ hnm).mono ?_;rintro x w1 ⟨rfl,rfl⟩;rw[hw];go_wp2;go_returns;exact⟨rfl,by go_grown⟩
 ·have hR:Hid ((true&&itemsB its e)=(decide (its.length<=5)&&igo e none its)):=by show _=_;rw[Zp];rfl
  generalize (true&&itemsB its e)=R at *;by_cases h5:pn<=5
  ·rw[hr.out,decide_eq_true h5,Zp] at hR;go_enter func53,ntmps53
   go_wp2_with fail
   refine (aq_ nm _ hnm).mono ?_;rintro x w1 ⟨rfl,hz⟩;rw[hw];have hE:Below w.heap.size w w1:=by rw[hz];go_grown
   have C:Blk w1 w.heap.size #[.int .i64 id,.string nm,.bool fx,.slice pa pn pc] 97:=by rw[hz];exact Blk.new w _ _
   have hC:=C.lt;clear hz;have c3:=C.cell 3;simp only[lgA,lgB,lgC] at c3
   go_wp2_with fail
   go_loopw [5] (fun ix wr=>∃ (k:Nat),k<=pn∧ix=.int .i64 k∧Hid (R=igo e (BW its k) (its.drop k))∧Blk wr w.heap.size #[.int .i64 id,.string nm,.bool fx,.slice pa pn pc] 97∧Below w.heap.size w wr) (fun ix _=>pn-(intOf ix).toNat)
   case atStart=>exact⟨0,Zg _,rfl,hR,C,hE⟩
   case round=>
    clear c3;obtain⟨k,hk,rfl,hv,C',hB⟩:=hrel;have c3:=C'.cell 3;simp only[lgA,lgB,lgC] at c3;by_cases hC:k<pn
    ·obtain⟨b,o,x,qa,qn,qc,rfl,hx,c0,c1,hP,_,_,_⟩:=bO_ (h.below hB) hC
     have hb:Hid (R=(nameB x.nm&&(match BW its k with | none=>true | some p=>bl p.nm.toList x.nm.toList)&&(Ar x.ps e).isSome&&igo e (BW its (k+1)) (its.drop (k+1)))):=by
      show _=_;rw[hv.out,al_ hx,hB_,hx];rfl
     rw[jm_ hsp] at hb;obtain⟨m1,m2⟩:=hI x (Zc hx);have hD:x.ps.length=qn:=hP.len;rw[hD] at m2;have hH:(k:Int)<pn:=by omega
     have hJ:(0:Int)<=k:=by omega
     have hs:0<k->∃ y,BW its k=some y∧wr.cell? ⟨b,o+(k-1)*2,none⟩=some (.string y.nm):=fun h0=>by
      obtain⟨b',o',y,_,_,_,hF,hy,d0,_⟩:=bO_ (h.below hB) (show k-1<pn by omega);obtain⟨rfl,rfl⟩:b=b'∧o=o':=by simpa using hF
      exact⟨y,by unfold BW;rw[if_neg (by omega)];exact hy,d0⟩
     have hc:∀ u:World,Below wr.heap.size wr u->Below w.heap.size w u:=fun u hu=>Aa hB hu;clear hx hv hD;have hg:=fun u:World=>aq_ x.nm u m1;have hh:=fun (u:World) (hu:Below wr.heap.size wr u)=>i7_ qa qn qc x.ps u (hP.below hu) m2;have hj:Below wr.heap.size wr (wr.alloc (.cells #[.string x.nm,.slice qa qn qc] 156)):=by go_grown
     have X:=Blk.new wr #[.string x.nm,.slice qa qn qc] 156;have x0:∀ g:Grw (wr.alloc (.cells #[.string x.nm,.slice qa qn qc] 156)),g.w.cell? ⟨wr.heap.size,0,none⟩=some (.string x.nm):=Ad (X.cell 0);have x1:∀ g:Grw (wr.alloc (.cells #[.string x.nm,.slice qa qn qc] 156)),g.w.cell? ⟨wr.heap.size,1,none⟩=some (.slice qa qn qc):=Ad (X.cell 1);have x3:=Ad (Ab hj c3);have hL:=aA_ (wr.alloc (.cells #[.string x.nm,.slice qa qn qc] 156))
     cases hp:nameB x.nm
     ·rw[hp] at hb
      go_wp2_with fail
      refine ab_ (by kernel_rfl) (by kernel_rfl) ?_
      repeat (go_big_quiet_step (first | (go_at_call 100;have qq:=hg;rw[hp] at qq;exact am_ (qq _))))
      refine wpQuiet_nil ?_;intro w2 hx;have hf:=Aa hj (ah_ hx);clear hx;go_wp2;go_returns;exact⟨by rw[hb.out];simp,hc _ hf⟩
     ·rw[hp,Zp] at hb;by_cases hk0:0<k
      ·obtain⟨y,hy,d0⟩:=hs hk0;have y0:=Ad (Ab hj d0);rw[hy] at hb;have ht:decide ((0:Int)<(k:Int))=true:=decide_eq_true (by omega);have hK:((k:Int)-1).toNat=k-1:=by omega
       cases hA:bl y.nm.toList x.nm.toList
       ·simp only[hA,Zr] at hb
        go_wp2_with fail
        refine ab_ (by kernel_rfl) (by kernel_rfl) ?_
        repeat (go_big_quiet_step (first | (go_at_call 100;have qq:=hg;rw[hp] at qq;exact am_ (qq _))))
        refine wpQuiet_nil ?_;intro w2 hx;have hf:=Aa hj (ah_ hx);have x1':=Ab (ah_ hx) (show (wr.alloc (.cells #[.string x.nm,.slice qa qn qc] 156)).cell? ⟨wr.heap.size,1,none⟩=some (.slice qa qn qc) from X.cell 1);have C2:=C'.below hf;clear hx;go_wp2;go_returns;exact⟨by rw[hb.out];rfl,hc _ hf⟩
       ·simp only[hA,Zp] at hb
        cases hn:Ae x.ps
        ·rw[hn,Zr,Zr] at hb
         go_wp2_with fail
         refine ab_ (by kernel_rfl) (by kernel_rfl) ?_
         repeat (go_big_quiet_step (first | (go_at_call 100;have qq:=hg;rw[hp] at qq;exact am_ (qq _)) | (go_at_call 101;have qq:=fun (u:World) (hu:Below wr.heap.size wr u)=>hh u hu;rw[hn] at qq;exact an_ (qq _ (Aa hj (Grw.h _))))))
         refine wpQuiet_nil ?_;intro w2 hx;have hf:=Aa hj (ah_ hx);have x1':=Ab (ah_ hx) (show (wr.alloc (.cells #[.string x.nm,.slice qa qn qc] 156)).cell? ⟨wr.heap.size,1,none⟩=some (.slice qa qn qc) from X.cell 1);have C2:=C'.below hf;clear hx;go_wp2;go_returns;exact⟨by rw[hb.out];rfl,hc _ hf⟩
        ·rw[hn,Zp] at hb;obtain⟨hm,hq⟩:=gd_ hn;rw[hP.len] at hm
         go_wp2_with fail
         refine ab_ (by kernel_rfl) (by kernel_rfl) ?_
         repeat (go_big_quiet_step (first | (go_at_call 100;have qq:=hg;rw[hp] at qq;exact am_ (qq _)) | (go_at_call 101;have qq:=fun (u:World) (hu:Below wr.heap.size wr u)=>hh u hu;rw[hn] at qq;exact an_ (qq _ (Aa hj (Grw.h _))))))
         refine wpQuiet_nil ?_;intro w2 hx;have hf:=Aa hj (ah_ hx);have x1':=Ab (ah_ hx) (show (wr.alloc (.cells #[.string x.nm,.slice qa qn qc] 156)).cell? ⟨wr.heap.size,1,none⟩=some (.slice qa qn qc) from X.cell 1);have C2:=C'.below hf;clear hx
         go_wp2_with fail
         refine (eo_ qa qn qc x.ps ea en ec e _ (hP.below hf) (he.below (hc _ hf)) hstr hm hen hq).mono ?_;rintro e1 w3 ⟨ha,hl⟩;replace C2:=C2.below hl;replace hl:=Aa hf hl
         cases ho:cgo e ⟨#[]⟩ x.ps with
         |none=>
          rw[ho] at ha hb;replace ha:e1=.returned (.tuple #[.string ⟨#[]⟩,.bool false]):=ha;subst ha;clear ho;go_wp2;go_returns;exact⟨by rw[hb.out];rfl,hc _ hl⟩
         |some s=>
          rw[ho] at ha hb;replace ha:e1=.returned (.tuple #[.string s,.bool true]):=ha;subst ha;clear ho;go_wp2;go_roundw
          case rel=>exact⟨k+1,by omega,by go_num,by show _=_;rw[hb.out];rfl,C2,hc _ hl⟩
          case measure=>simp[intOf];omega
      ·have hG:BW its k=none:=by unfold BW;rw[if_pos (by omega)]
       have ht:decide ((0:Int)<(k:Int))=false:=YV (by omega);rw[hG] at hb;simp only[Zp] at hb
       cases hn:Ae x.ps
       ·rw[hn,Zr,Zr] at hb
        go_wp2_with fail
        refine ab_ (by kernel_rfl) (by kernel_rfl) ?_
        repeat (go_big_quiet_step (first | (go_at_call 100;have qq:=hg;rw[hp] at qq;exact am_ (qq _)) | (go_at_call 101;have qq:=fun (u:World) (hu:Below wr.heap.size wr u)=>hh u hu;rw[hn] at qq;exact an_ (qq _ (Aa hj (Grw.h _))))))
        refine wpQuiet_nil ?_;intro w2 hx;have hf:=Aa hj (ah_ hx);have x1':=Ab (ah_ hx) (show (wr.alloc (.cells #[.string x.nm,.slice qa qn qc] 156)).cell? ⟨wr.heap.size,1,none⟩=some (.slice qa qn qc) from X.cell 1);have C2:=C'.below hf;clear hx;go_wp2;go_returns;exact⟨by rw[hb.out];rfl,hc _ hf⟩
       ·rw[hn,Zp] at hb;obtain⟨hm,hq⟩:=gd_ hn;rw[hP.len] at hm
        go_wp2_with fail
        refine ab_ (by kernel_rfl) (by kernel_rfl) ?_
        repeat (go_big_quiet_step (first | (go_at_call 100;have qq:=hg;rw[hp] at qq;exact am_ (qq _)) | (go_at_call 101;have qq:=fun (u:World) (hu:Below wr.heap.size wr u)=>hh u hu;rw[hn] at qq;exact an_ (qq _ (Aa hj (Grw.h _))))))
        refine wpQuiet_nil ?_;intro w2 hx;have hf:=Aa hj (ah_ hx);have x1':=Ab (ah_ hx) (show (wr.alloc (.cells #[.string x.nm,.slice qa qn qc] 156)).cell? ⟨wr.heap.size,1,none⟩=some (.slice qa qn qc) from X.cell 1);have C2:=C'.below hf;clear hx
        go_wp2_with fail
        refine (eo_ qa qn qc x.ps ea en ec e _ (hP.below hf) (he.below (hc _ hf)) hstr hm hen hq).mono ?_;rintro e1 w3 ⟨ha,hl⟩;replace C2:=C2.below hl;replace hl:=Aa hf hl
        cases ho:cgo e ⟨#[]⟩ x.ps with
        |none=>
         rw[ho] at ha hb;replace ha:e1=.returned (.tuple #[.string ⟨#[]⟩,.bool false]):=ha;subst ha;clear ho;go_wp2;go_returns;exact⟨by rw[hb.out];rfl,hc _ hl⟩
        |some s=>
         rw[ho] at ha hb;replace ha:e1=.returned (.tuple #[.string s,.bool true]):=ha;subst ha;clear ho;go_wp2;go_roundw
         case rel=>exact⟨k+1,by omega,by go_num,by show _=_;rw[hb.out];rfl,C2,hc _ hl⟩
         case measure=>simp[intOf];omega
    ·obtain rfl:k=pn:=by omega
     go_wp2;go_returns;exact⟨by rw[hv.out,Ze (Zm hr.out)];rfl,hB⟩
  ·rw[hr.out,YV h5,Zr] at hR;go_enter func53,ntmps53
   go_wp2_with fail
   refine (aq_ nm _ hnm).mono ?_;rintro x w1 ⟨rfl,rfl⟩;rw[hw];go_wp2;go_returns;exact⟨by rw[hR.out];rfl,by go_grown⟩
end
section
open Go Go.RowKit
variable{next:Int}{e:List Ex}
def idB (next:Int)(q:Option Vo)(v:Vo):Bool:=decide (1<=v.id)&&decide (v.id<=1000000000)&&decide (v.id<next)&&(match q with | none=>true | some u=>decide (u.id<v.id))
def BQ (u v:Vo):Bool:=u.nm.toList==v.nm.toList
def Dj (next:Int)(e:List Ex):List Vo->List Vo->Bool
 |_,[]=>true
 |seen,v::r=>idB next seen.getLast? v&&(nameB v.nm&&itemsB v.its e)&&!(seen.any (fun u=>BQ u v))&&Dj next e (seen++[v]) r
def ndV:List Vo->List Vo->Bool
 |_,[]=>true
 |seen,v::r=>!(seen.any (fun u=>BQ u v))&&ndV (seen++[v]) r
def Cy (seen:List Vo):Int:=match seen.getLast? with | none=>0 | some u=>u.id
end
end Go.Proofs.YtbbhcnjhohidnaaGreatDoor
