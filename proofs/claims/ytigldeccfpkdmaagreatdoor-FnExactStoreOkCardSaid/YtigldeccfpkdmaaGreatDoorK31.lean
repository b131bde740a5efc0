/- The laws' copies, sizes and comparisons of disks; how a disk that is an argument lies in memory. The laws' copy of a disk; a disk that is an argument. How the laws' arguments, as they are read, lie in memory: disks. Copies of a disk, and a disk of which all is safe, by the model. An op on a right disk, Do and Sync, by the model. Copies of a disk, by the program. The laws' marks of disks: written into them, and held against them. -/
import Derived.Lib.SmallJoins
import Derived.Test.YtigldeccfpkdmaaGreatDoorK30
import Derived.Test.YtigldeccfpkdmaaGreatDoorK00
import Derived.ArgAppend
import Derived.Test.YtigldeccfpkdmaaGreatDoorK22
import Derived.Test.YtigldeccfpkdmaaGreatDoorProg
namespace Go.Proofs.YtigldeccfpkdmaaGreatDoor
open Go Go.RowKit Go.BigFrame
set_option maxHeartbeats 20000000
set_option maxRecDepth 100000
/-- A disk that is only read. -/
def DiskL (w:World) (v:Value) (d:Dk):Prop:=∃ la ln lc sa sn sc oa on oc,v=.agg #[.slice la ln lc,.slice sa sn sc,.slice oa on oc]∧FlsAt w la ln d.live∧FlsAt w sa sn d.safe∧DpsAt w oa on d.ops
theorem DiskL.below {w w':World} {v:Value} {d:Dk} (h:DiskL w v d) (hb:Below w.heap.size w w'):DiskL w' v d:=by
 obtain ⟨la,ln,lc,sa,sn,sc,oa,on,oc,hv,h1,h2,h3⟩:=h
 exact ⟨la,ln,lc,sa,sn,sc,oa,on,oc,hv,h1.below hb,h2.below hb,h3.below hb⟩
/-- A slice that may be written. -/
structure WrAt {α:Type} (cs:α->List Value) (sz:Nat) (t:TypeId) (w:World) (B:Nat) (a:Option Addr) (n cap:Nat) (l:List α):Prop where
 sl:SlAt cs sz w a n l
 own:(a=none∧n=0∧cap=0)∨∃ b c,a=some ⟨b,0,none⟩∧B<=b∧Blk w b c t∧n*sz<=c.size
section
variable {α:Type} {cs:α->List Value} {sz:Nat} {t:TypeId} {w w':World} {B n cap:Nat} {a:Option Addr} {l:List α}
theorem ResAt.wr (h:ResAt cs sz t w B a n cap l):WrAt cs sz t w B a n cap l:=by
 refine ⟨h.sl,?_⟩
 rcases h.own with h0 | ⟨b,ha,hB,h1,_,c,hc,h2,_⟩
 ·exact .inl h0
 ·exact .inr ⟨b,c,ha,hB,hc,by rw [h2];exact Nat.mul_le_mul_right _ h1⟩
theorem OwnAt.wr {b:Nat} (h:OwnAt cs sz t w b n l) (hB:B<=b):WrAt cs sz t w B (some ⟨b,0,none⟩) n n l:=by
 refine ⟨h.sl,?_⟩
 obtain ⟨c,hc,h1,_⟩:=h.blk
 exact .inr ⟨b,c,rfl,hB,hc,h1⟩
theorem WrAt.below (h:WrAt cs sz t w B a n cap l) (hb:Below w.heap.size w w'):WrAt cs sz t w' B a n cap l:=by
 refine ⟨h.sl.below hb,?_⟩
 rcases h.own with h0 | ⟨b,c,ha,hB,hc,h1⟩
 ·exact .inl h0
 ·exact .inr ⟨b,c,ha,hB,hc.below hb,h1⟩
theorem WrAt.mono {B':Nat} (h:WrAt cs sz t w B a n cap l) (hb:B'<=B):WrAt cs sz t w B' a n cap l:=by
 refine ⟨h.sl,?_⟩
 rcases h.own with h0 | ⟨b,c,ha,hB,hc,h1⟩
 ·exact .inl h0
 ·exact .inr ⟨b,c,ha,by omega,hc,h1⟩
theorem WrAt.block (h:WrAt cs sz t w B a n cap l):∀ ad,a=some ad->B<=ad.block∧ad.block<w.heap.size:=by
 intro ad e
 rcases h.own with ⟨h0,_⟩ | ⟨b,c,ha,hB,hc,_⟩
 ·rw [h0] at e;cases e
 ·rw [ha] at e;cases e;exact ⟨hB,hc.lt⟩
theorem WrAt.slH (h:WrAt cs sz t w B a n cap l):SlH cs sz w a n cap l:=by
 refine ⟨h.sl,fun ad e=>?_,fun e=>?_⟩
 ·rcases h.own with ⟨h0,_⟩ | ⟨b,c,ha,_⟩
  ·rw [h0] at e;cases e
  ·rw [ha] at e;cases e;rfl
 ·rcases h.own with ⟨_,_,h0⟩ | ⟨b,c,ha,_⟩
  ·exact h0
  ·rw [ha] at e;cases e
theorem WrAt.off {row:Option Nat} (h:WrAt cs sz t w B a n cap l) (hg:w.grownBy w' row) (hr:∀ ad,a=some ad->some ad.block≠row):WrAt cs sz t w' B a n cap l:=by
 refine ⟨eW_ h.sl hg hr,?_⟩
 rcases h.own with h0 | ⟨b,c,ha,hB,hc,h1⟩
 ·exact .inl h0
 ·exact .inr ⟨b,c,ha,hB,(hg.block _ hc.lt (hr _ ha)).trans hc,h1⟩
end
/-- A disk of one's own. -/
def DiskW (B:Nat) (w:World) (v:Value) (d:Dk):Prop:=∃ la ln lc sa sn sc oa on oc,v=.agg #[.slice la ln lc,.slice sa sn sc,.slice oa on oc]∧WrAt Fl.cs 2 123 w B la ln lc d.live∧WrAt Fl.cs 2 123 w B sa sn sc d.safe∧WrAt Dp.cs 4 120 w B oa on oc d.ops∧(∀ x y,la=some x->sa=some y->x.block≠y.block)
theorem DiskW.below {B:Nat} {w w':World} {v:Value} {d:Dk} (h:DiskW B w v d) (hb:Below w.heap.size w w'):DiskW B w' v d:=by
 obtain ⟨la,ln,lc,sa,sn,sc,oa,on,oc,hv,h1,h2,h3,h4⟩:=h
 exact ⟨la,ln,lc,sa,sn,sc,oa,on,oc,hv,h1.below hb,h2.below hb,h3.below hb,h4⟩
theorem DiskW.at {B:Nat} {w:World} {v:Value} {d:Dk} (h:DiskW B w v d):DiskAt w v d:=by
 obtain ⟨la,ln,lc,sa,sn,sc,oa,on,oc,hv,h1,h2,h3,_⟩:=h
 exact ⟨la,ln,lc,sa,sn,sc,oa,on,oc,hv,h1.slH,h2.slH,h3.slH⟩
theorem DiskAt.l {w:World} {v:Value} {d:Dk} (h:DiskAt w v d):DiskL w v d:=by
 obtain ⟨la,ln,lc,sa,sn,sc,oa,on,oc,hv,h1,h2,h3⟩:=h
 exact ⟨la,ln,lc,sa,sn,sc,oa,on,oc,hv,h1.sl,h2.sl,h3.sl⟩
def BigD (d:Dk):Prop:=(d.live.length<=9223372036854775807∧StrsF d.live)∧(d.safe.length<=9223372036854775807∧StrsF d.safe)∧d.ops.length<=9223372036854775807∧StrsD d.ops
def SmallDk (d:Dk):Prop:=SmallF d.live.length d.live∧SmallF d.safe.length d.safe∧SmallD d.ops.length d.ops
theorem SmallDk.dim {d:Dk} (h:SmallDk d):DimD d:=by
 obtain ⟨h1,h2,h3⟩:=h
 have hF:∀ {l:List Fl},SmallF l.length l->l.length<=4000000∧BndF l:=fun {l} hl=>⟨by have:=hl.1;omega,fun x hx=>by have:=hl.2 x hx;unfold bytesF at this;omega⟩
 refine ⟨hF h1,hF h2,by have:=h3.1;omega,fun o ho=>?_⟩
 have:=h3.2 o ho
 unfold bytesD at this
 exact ⟨⟨by omega,by omega,by omega⟩,by omega⟩
theorem SmallDk.dims {d:Dk} (h:SmallDk d):d.live.length<=1048576∧d.safe.length<=1048576∧d.ops.length<=1048576:=⟨h.1.1,h.2.1.1,h.2.2.1⟩
theorem Blk.three {w:World} {b:Nat} {c0 c1 c2:Value} {t:TypeId} (h:Blk w b #[c0,c1,c2] t):w.cell? ⟨b,0,none⟩=some c0∧w.cell? ⟨b,1,none⟩=some c1∧w.cell? ⟨b,2,none⟩=some c2:=⟨h.cell 0,h.cell 1,h.cell 2⟩
theorem e3_ (v:Value) (d:Dk) (w:World) (h:DiskL w v d) (hb:BigD d) :
  Calls Tryz.prog 20 #[v,.int .i64 1048576] w fun e w'=>(∃ r:Int,e=.returned (.int .i64 r)∧(r=-1∨(0<=r∧r<=1048576∧SmallDk d)))∧Below w.heap.size w w':=by
 obtain ⟨la,ln,lc,sa,sn,sc,oa,on,oc,rfl,h1,h2,h3⟩:=h
 obtain ⟨⟨z1,z2⟩,⟨z3,z4⟩,z5,z6⟩:=hb
 rw [h1.len] at z1
 rw [h2.len] at z3
 rw [h3.len] at z5
 unfold SmallDk
 rw [h1.len,h2.len,h3.len]
 obtain ⟨live,safe,ops⟩:=d
 simp only at *
 go_enter Tryz.func20,Tryz.ntmps20
 go_wp2_with fail
 refine (d9_ la ln lc live 1048576 _ (h1.below (by go_grown)) z2 z1 (by omega) (by omega)).mono ?_
 rintro e w1 ⟨⟨r,rfl,hr⟩,hB1⟩
 have C:Blk w1 w.heap.size _ _:=(Blk.new w _ _).below hB1
 replace hB1:Below w.heap.size w w1:=chain (by go_grown) hB1
 rcases hr with rfl | ⟨r0,r1,r2⟩
 ·go_wp2
  go_returns
  exact ⟨⟨-1,rfl,.inl rfl⟩,hB1⟩
 ·have c1:=C.three.2.1
  go_wp2_with fail
  refine (d9_ sa sn sc safe r _ (h2.below hB1) z4 z3 (by omega) (by omega)).mono ?_
  rintro e w2 ⟨⟨q,rfl,hq⟩,hB2⟩
  replace C:=C.below hB2
  replace hB2:=chain hB1 hB2
  clear c1
  rcases hq with rfl | ⟨q0,q1,q2⟩
  ·go_wp2
   go_returns
   exact ⟨⟨-1,rfl,.inl rfl⟩,hB2⟩
  ·have c2:=C.three.2.2
   go_wp2_with fail
   refine (jB_ oa on oc ops q _ (h3.below hB2) z6 z5 (by omega) (by omega)).mono ?_
   rintro e w3 ⟨⟨s,rfl,hs⟩,hB3⟩
   replace hB3:=chain hB2 hB3
   clear c2
   rcases hs with rfl | ⟨s0,s1,s2⟩
   ·go_wp2
    go_returns
    exact ⟨⟨-1,rfl,.inl rfl⟩,hB3⟩
   ·go_wp2
    go_returns
    exact ⟨⟨s,rfl,.inr ⟨s0,s1,r2,q2,s2⟩⟩,hB3⟩
def eqDk (d e:Dk):Bool:=eqFls d.live e.live&&(eqFls d.safe e.safe&&eqDps d.ops e.ops)
theorem hD_ (d:Dk):eqDk d d=true:=by simp [eqDk,kG_,kJ_]
theorem e4_ (v v':Value) (d d':Dk) (w:World) (h:DiskL w v d) (h':DiskL w v' d') (hn:d.live.length<=4194304∧d.safe.length<=4194304∧d.ops.length<=4194304) (hn':d'.live.length<=4194304∧d'.safe.length<=4194304∧d'.ops.length<=4194304) :
  Calls Tryz.prog 24 #[v,v'] w fun e w'=>e=.returned (.bool (eqDk d d'))∧Below w.heap.size w w':=by
 obtain ⟨la,ln,lc,sa,sn,sc,oa,on,oc,rfl,h1,h2,h3⟩:=h
 obtain ⟨la',ln',lc',sa',sn',sc',oa',on',oc',rfl,g1,g2,g3⟩:=h'
 rw [h1.len,h2.len,h3.len] at hn
 rw [g1.len,g2.len,g3.len] at hn'
 obtain ⟨live,safe,ops⟩:=d
 obtain ⟨live',safe',ops'⟩:=d'
 simp only at *
 have hB0:Below w.heap.size w ((w.alloc (.cells #[.slice la ln lc,.slice sa sn sc,.slice oa on oc] 52)).alloc (.cells #[.slice la' ln' lc',.slice sa' sn' sc',.slice oa' on' oc'] 52)):=by go_grown
 have C:Blk ((w.alloc (.cells #[.slice la ln lc,.slice sa sn sc,.slice oa on oc] 52)).alloc (.cells #[.slice la' ln' lc',.slice sa' sn' sc',.slice oa' on' oc'] 52)) w.heap.size #[.slice la ln lc,.slice sa sn sc,.slice oa on oc] 52:=(Blk.new w _ _).alloc _
 have E:Blk ((w.alloc (.cells #[.slice la ln lc,.slice sa sn sc,.slice oa on oc] 52)).alloc (.cells #[.slice la' ln' lc',.slice sa' sn' sc',.slice oa' on' oc'] 52)) (w.heap.size+1) #[.slice la' ln' lc',.slice sa' sn' sc',.slice oa' on' oc'] 52:=Blk.new' _ _ _ _ (by simp)
 go_enter Tryz.func24,Tryz.ntmps24
 go_wp2_with fail
 generalize (w.alloc (.cells #[.slice la ln lc,.slice sa sn sc,.slice oa on oc] 52)).alloc (.cells #[.slice la' ln' lc',.slice sa' sn' sc',.slice oa' on' oc'] 52)=W0 at *
 refine (ea_ la ln lc live la' ln' lc' live' _ (h1.below hB0) (g1.below hB0) hn.1 hn'.1).mono ?_
 rintro e w1 ⟨rfl,hB1⟩
 replace C:=C.below hB1
 replace E:=E.below hB1
 replace hB1:=chain hB0 hB1
 cases he1:eqFls live live'
 ·have hr:Hid (eqDk ⟨live,safe,ops⟩ ⟨live',safe',ops'⟩=false):=by show _=_;simp [eqDk,he1]
  go_wp2
  go_returns
  exact ⟨ab_ hr.out.symm,hB1⟩
 ·have c1:=C.three.2.1
  have e1:=E.three.2.1
  go_wp2_with fail
  refine (ea_ sa sn sc safe sa' sn' sc' safe' _ (h2.below hB1) (g2.below hB1) hn.2.1 hn'.2.1).mono ?_
  rintro e w2 ⟨rfl,hB2⟩
  replace C:=C.below hB2
  replace E:=E.below hB2
  replace hB2:=chain hB1 hB2
  clear c1 e1
  cases he2:eqFls safe safe'
  ·have hr:Hid (eqDk ⟨live,safe,ops⟩ ⟨live',safe',ops'⟩=false):=by show _=_;simp [eqDk,he2]
   go_wp2
   go_returns
   exact ⟨ab_ hr.out.symm,hB2⟩
  ·have c2:=C.three.2.2
   have e2:=E.three.2.2
   go_wp2_with fail
   refine (jC_ oa on oc ops oa' on' oc' ops' _ (h3.below hB2) (g3.below hB2) hn.2.2 hn'.2.2).mono ?_
   rintro e w3 ⟨rfl,hB3⟩
   replace hB3:=chain hB2 hB3
   have hr:Hid (eqDk ⟨live,safe,ops⟩ ⟨live',safe',ops'⟩=eqDps ops ops'):=by show _=_;simp [eqDk,he1,he2]
   clear c2 e2
   generalize eqDps ops ops'=q at *
   cases q
   ·go_wp2
    go_returns
    exact ⟨ab_ hr.out.symm,hB3⟩
   ·go_wp2
    go_returns
    exact ⟨ab_ hr.out.symm,hB3⟩
end Go.Proofs.YtigldeccfpkdmaaGreatDoor
namespace Go.Proofs.YtigldeccfpkdmaaGreatDoor
open Go Go.RowKit Go.BigFrame
open Go.ChangeShapes Go.WideShapes Go.ChangeAt Go.Deep Go.Joins
set_option maxHeartbeats 20000000
set_option maxRecDepth 100000
theorem setOldB {w w':World} {b i:Nat} {x:Value} (h:Below w.heap.size w w') (hb:w.heap.size<=b):Below w.heap.size w (w'.setCell ⟨b,i,none⟩ x):=h.setCell (by simpa using hb) _
theorem OwnAt.set {α:Type} {cs:α->List Value} {sz:Nat} {t:TypeId} {w:World} {b n c i:Nat} {x:Value} {l:List α} (h:OwnAt cs sz t w b n l) (hb:b≠c):OwnAt cs sz t (w.setCell ⟨c,i,none⟩ x) b n l:=h.grown (ac_ (World.grownBy.refl _ _) _ _) hb
theorem Blk.setO {w:World} {b c i:Nat} {cc:Array Value} {t:TypeId} {x:Value} (h:Blk w b cc t) (hb:b≠c):Blk (w.setCell ⟨c,i,none⟩ x) b cc t:=h.grown (ac_ (World.grownBy.refl _ _) _ _) hb
theorem bL_ (v:Value) (d:Dk) (w:World) (h:DiskL w v d) (hs:SmallDk d) :
  Calls Tryz.prog 22 #[v] w fun e w'=>(∃ v',e=.returned v'∧DiskW (w.heap.size+1) w' v' d)∧Below w.heap.size w w':=by
 obtain ⟨la,ln,lc,sa,sn,sc,oa,on,oc,rfl,h1,h2,h3⟩:=h
 obtain ⟨d1,d2,d3⟩:=hs.dims
 rw [h1.len] at d1
 rw [h2.len] at d2
 rw [h3.len] at d3
 clear hs
 obtain ⟨live,safe,ops⟩:=d
 simp only at *
 obtain ⟨W0,hW0⟩:∃ W0,W0=((w.alloc (.cells #[.slice la ln lc,.slice sa sn sc,.slice oa on oc] 46)).alloc (.cells #[.slice none 0 0,.slice none 0 0,.slice none 0 0] 52)).alloc (.cells #[.slice none 0 0,.slice none 0 0,.slice none 0 0] 52):=⟨_,rfl⟩
 have hB0:Below w.heap.size w W0:=by rw [hW0];go_grown
 have K0:Blk W0 w.heap.size #[.slice la ln lc,.slice sa sn sc,.slice oa on oc] 46:=by rw [hW0];exact ((Blk.new w _ _).alloc _).alloc _
 have K1:Blk W0 (w.heap.size+1) #[.slice none 0 0,.slice none 0 0,.slice none 0 0] 52:=by rw [hW0];exact (Blk.new' _ _ _ _ (by simp)).alloc _
 have K2:Blk W0 (w.heap.size+1+1) #[.slice none 0 0,.slice none 0 0,.slice none 0 0] 52:=by rw [hW0];exact Blk.new' _ _ _ _ (by simp)
 have hz0:W0.heap.size=w.heap.size+1+1+1:=by rw [hW0];simp
 go_enter Tryz.func22,Tryz.ntmps22
 go_wp2_with fail
 rw [<-hW0]
 clear hW0
 refine (eb_ la ln lc live W0 (h1.below hB0) (by omega)).mono ?_
 rintro e w1 ⟨rfl,O1,hB1⟩
 have hz1:=hB1.size
 simp only [hz0] at O1 hz1 ⊢
 replace K0:=K0.below hB1
 replace K1:=K1.below hB1
 replace K2:=K2.below hB1
 replace hB1:=chain hB0 hB1
 have g0:=K2.frozen 0
 have y0:=K2.three.1
 have x1:=K0.three.2.1
 have x1':(w1.setCell ⟨w.heap.size+1+1,0,none⟩ (.slice (some ⟨w.heap.size+1+1+1,0,none⟩) ln ln)).cell? ⟨w.heap.size,1,none⟩=some (.slice sa sn sc):=(K0.setO (by omega)).three.2.1
 go_wp2_with fail
 have T0:=K0.setO (c:=w.heap.size+1+1) (i:=0) (x:=.slice (some ⟨w.heap.size+1+1+1,0,none⟩) ln ln) (by omega)
 have T1:=K1.setO (c:=w.heap.size+1+1) (i:=0) (x:=.slice (some ⟨w.heap.size+1+1+1,0,none⟩) ln ln) (by omega)
 have T2:=K2.set 0 (.slice (some ⟨w.heap.size+1+1+1,0,none⟩) ln ln)
 have P1:=O1.set (c:=w.heap.size+1+1) (i:=0) (x:=.slice (some ⟨w.heap.size+1+1+1,0,none⟩) ln ln) (by omega)
 have hB2:=setOldB (h:=hB1) (b:=w.heap.size+1+1) (i:=0) (x:=.slice (some ⟨w.heap.size+1+1+1,0,none⟩) ln ln) (by omega)
 have hz2:w.heap.size+1+1+1<(w1.setCell ⟨w.heap.size+1+1,0,none⟩ (.slice (some ⟨w.heap.size+1+1+1,0,none⟩) ln ln)).heap.size:=P1.lt
 simp only [List.setIfInBounds_toArray,List.set_cons_zero] at T2
 generalize w1.setCell ⟨w.heap.size+1+1,0,none⟩ (.slice (some ⟨w.heap.size+1+1+1,0,none⟩) ln ln)=u1 at *
 clear K0 K1 K2 O1 hB1 g0 y0 x1 x1' hz1
 refine (eb_ sa sn sc safe u1 (h2.below hB2) (by omega)).mono ?_
 rintro e w2 ⟨rfl,O2,hB3⟩
 replace T0:=T0.below hB3
 replace T1:=T1.below hB3
 replace T2:=T2.below hB3
 replace P1:=P1.below hB3
 replace hB3:=chain hB2 hB3
 have g0:=T2.frozen 1
 have y0:=T2.three.2.1
 have x1':(w2.setCell ⟨w.heap.size+1+1,1,none⟩ (.slice (some ⟨u1.heap.size,0,none⟩) sn sn)).cell? ⟨w.heap.size,2,none⟩=some (.slice oa on oc):=(T0.setO (by omega)).three.2.2
 go_wp2_with fail
 have V0:=T0.setO (c:=w.heap.size+1+1) (i:=1) (x:=.slice (some ⟨u1.heap.size,0,none⟩) sn sn) (by omega)
 have V1:=T1.setO (c:=w.heap.size+1+1) (i:=1) (x:=.slice (some ⟨u1.heap.size,0,none⟩) sn sn) (by omega)
 have V2:=T2.set 1 (.slice (some ⟨u1.heap.size,0,none⟩) sn sn)
 have Q1:=P1.set (c:=w.heap.size+1+1) (i:=1) (x:=.slice (some ⟨u1.heap.size,0,none⟩) sn sn) (by omega)
 have Q2:=O2.set (c:=w.heap.size+1+1) (i:=1) (x:=.slice (some ⟨u1.heap.size,0,none⟩) sn sn) (by omega)
 have hB4:=setOldB (h:=hB3) (b:=w.heap.size+1+1) (i:=1) (x:=.slice (some ⟨u1.heap.size,0,none⟩) sn sn) (by omega)
 have hz3:u1.heap.size<(w2.setCell ⟨w.heap.size+1+1,1,none⟩ (.slice (some ⟨u1.heap.size,0,none⟩) sn sn)).heap.size:=Q2.lt
 simp only [List.setIfInBounds_toArray,List.set_cons_zero,List.set_cons_succ] at V2
 generalize w2.setCell ⟨w.heap.size+1+1,1,none⟩ (.slice (some ⟨u1.heap.size,0,none⟩) sn sn)=u2 at *
 clear T0 T1 T2 P1 O2 hB3 g0 y0 x1' hB2
 refine (jD_ oa on oc ops u2 (h3.below hB4) (by omega)).mono ?_
 rintro e w3 ⟨rfl,O3,hB5⟩
 replace V1:=V1.below hB5
 replace V2:=V2.below hB5
 replace Q1:=Q1.below hB5
 replace Q2:=Q2.below hB5
 replace hB5:=chain hB4 hB5
 have g2:=V2.frozen 2
 obtain ⟨y0,y1,y2⟩:=V2.three
 obtain ⟨z0,z1,z2⟩:=V1.three
 have f0:=V1.frozen 0
 have f1:=V1.frozen 1
 have f2:=V1.frozen 2
 have hne:¬ w.heap.size+1=w.heap.size+1+1:=by omega
 have hne':¬ w.heap.size+1+1=w.heap.size+1:=by omega
 go_wp2
 have X1:=(((V1.setO (c:=w.heap.size+1+1) (i:=2) (x:=.slice (some ⟨u2.heap.size,0,none⟩) on on) (by omega)).set 0 (.slice (some ⟨w.heap.size+1+1+1,0,none⟩) ln ln)).set 1 (.slice (some ⟨u1.heap.size,0,none⟩) sn sn)).set 2 (.slice (some ⟨u2.heap.size,0,none⟩) on on)
 simp only [List.setIfInBounds_toArray,List.set_cons_succ,List.set_cons_zero] at X1
 have R1:=(((Q1.set (c:=w.heap.size+1+1) (i:=2) (x:=.slice (some ⟨u2.heap.size,0,none⟩) on on) (by omega)).set (c:=w.heap.size+1) (i:=0) (x:=.slice (some ⟨w.heap.size+1+1+1,0,none⟩) ln ln) (by omega)).set (c:=w.heap.size+1) (i:=1) (x:=.slice (some ⟨u1.heap.size,0,none⟩) sn sn) (by omega)).set (c:=w.heap.size+1) (i:=2) (x:=.slice (some ⟨u2.heap.size,0,none⟩) on on) (by omega)
 have R2:=(((Q2.set (c:=w.heap.size+1+1) (i:=2) (x:=.slice (some ⟨u2.heap.size,0,none⟩) on on) (by omega)).set (c:=w.heap.size+1) (i:=0) (x:=.slice (some ⟨w.heap.size+1+1+1,0,none⟩) ln ln) (by omega)).set (c:=w.heap.size+1) (i:=1) (x:=.slice (some ⟨u1.heap.size,0,none⟩) sn sn) (by omega)).set (c:=w.heap.size+1) (i:=2) (x:=.slice (some ⟨u2.heap.size,0,none⟩) on on) (by omega)
 have R3:=(((O3.set (c:=w.heap.size+1+1) (i:=2) (x:=.slice (some ⟨u2.heap.size,0,none⟩) on on) (by omega)).set (c:=w.heap.size+1) (i:=0) (x:=.slice (some ⟨w.heap.size+1+1+1,0,none⟩) ln ln) (by omega)).set (c:=w.heap.size+1) (i:=1) (x:=.slice (some ⟨u1.heap.size,0,none⟩) sn sn) (by omega)).set (c:=w.heap.size+1) (i:=2) (x:=.slice (some ⟨u2.heap.size,0,none⟩) on on) (by omega)
 have hB6:=setOldB (h:=(setOldB (h:=(setOldB (h:=(setOldB (h:=hB5) (b:=w.heap.size+1+1) (i:=2) (x:=.slice (some ⟨u2.heap.size,0,none⟩) on on) (by omega))) (b:=w.heap.size+1) (i:=0) (x:=.slice (some ⟨w.heap.size+1+1+1,0,none⟩) ln ln) (by omega))) (b:=w.heap.size+1) (i:=1) (x:=.slice (some ⟨u1.heap.size,0,none⟩) sn sn) (by omega))) (b:=w.heap.size+1) (i:=2) (x:=.slice (some ⟨u2.heap.size,0,none⟩) on on) (by omega)
 generalize (((w3.setCell ⟨w.heap.size+1+1,2,none⟩ (.slice (some ⟨u2.heap.size,0,none⟩) on on)).setCell ⟨w.heap.size+1,0,none⟩ (.slice (some ⟨w.heap.size+1+1+1,0,none⟩) ln ln)).setCell ⟨w.heap.size+1,1,none⟩ (.slice (some ⟨u1.heap.size,0,none⟩) sn sn)).setCell ⟨w.heap.size+1,2,none⟩ (.slice (some ⟨u2.heap.size,0,none⟩) on on)=W8 at *
 refine bodyPost_ret (results_cell_row rfl _ W8 (w.heap.size+1) _ _ _ _ rfl X1 Tryz.underlying52 rfl (by kernel_rfl)) rfl ?_
 exact ⟨⟨_,rfl,_,_,_,_,_,_,_,_,_,rfl,R1.wr (by omega),R2.wr (by omega),R3.wr (by omega),fun x y ex ey=>by cases ex;cases ey;show w.heap.size+1+1+1≠u1.heap.size;omega⟩,hB6⟩
end Go.Proofs.YtigldeccfpkdmaaGreatDoor
namespace Go.Proofs.YtigldeccfpkdmaaGreatDoor
open Go.ChangeShapes Go.WideShapes Go.ChangeAt Go.RowKit Go.Deep Go.Joins
set_option maxHeartbeats 20000000
set_option maxRecDepth 100000
theorem cS1:Tryz.prog.cellsOf 9=1:=by kernel_rfl
theorem cI1:Tryz.prog.cellsOf 2=1:=by kernel_rfl
theorem j0_ {H:Type} {enc:TypeId×Value->H} {w:World} {spare:Nat->Bool} {held:Bool} {a:Option Addr} {n cap:Nat} {d:DataW H} {p:List MemPlace}
  (h:DataW.Trod enc Tryz.prog w 0 spare held 43 (.slice a n cap) d p):n<=maxLen∧∃ l:List Fl,FlsAt w a n l∧∀ e∈l,e.nm.size<=maxLen∧e.d.size<=maxLen:=by
 obtain ⟨fuel,hf⟩:=h
 rcases open_slice Tryz.underlying43 hf with ⟨hcs,_⟩ | ⟨ad,len,cap',m,n',D,Pl,hcs,_,hl,hm,hmm,_,hel⟩
 ·simp [Value.cells] at hcs
  obtain ⟨rfl,rfl,rfl⟩:=hcs
  exact ⟨Nat.zero_le _,[],⟨rfl,fun i x hx=>by simp at hx⟩,by simp⟩
 ·simp [Value.cells] at hcs
  obtain ⟨rfl,rfl,rfl⟩:=hcs
  have hle:n<=m:=by rw [hmm];split<;>omega
  refine ⟨Nat.le_trans hl hm,?_⟩
  have hone:∀ i,i<n->∃ q:Fl,(q.nm.size<=maxLen∧q.d.size<=maxLen)∧∀ j v,q.cs[j]?=some v->w.cell? (ad.add (i*2+j))=some v:=by
   intro i hi
   obtain ⟨cs',h1,h2⟩:=hel i (by omega)
   rw [show Tryz.prog.cellsOf 192=2 by kernel_rfl] at h1
   obtain ⟨_,hlen,hcell⟩:=World.cells?_some h1
   obtain ⟨y0,y1,_,_,_,t0,t1⟩:=trod_struct2 Tryz.underlying192 h2
   obtain ⟨z0,e0,_,hz0⟩:=DataW.trod_string Tryz.underlying9 t0
   obtain ⟨z1,e1,_,hz1⟩:=DataW.trod_string Tryz.underlying9 t1
   match cs',hlen with
   |[x0,x1],_=>
    simp [cS1] at e0 e1
    subst e0 e1
    refine ⟨⟨z0,z1⟩,⟨hz0,hz1⟩,fun j v hv=>?_⟩
    have hj:j<2:=by have:=(List.getElem?_eq_some_iff.1 hv).1;simpa [Fl.cs] using this
    have:=hcell j hj
    rw [Addr.add_add] at this
    rw [this];exact hv
  have hinh:Inhabited Fl:=⟨⟨.empty,.empty⟩⟩
  obtain ⟨L,hL⟩:=choose_lt (α:=Fl) (p:=fun i q=>(q.nm.size<=maxLen∧q.d.size<=maxLen)∧∀ j v,q.cs[j]?=some v->w.cell? (ad.add (i*2+j))=some v) hone
  refine ⟨(List.range n).map L,⟨by simp,fun i x hx=>?_⟩,?_⟩
  ·have hi:i<n:=by have:=(List.getElem?_eq_some_iff.1 hx).1;simpa using this
   simp [hi] at hx
   subst hx
   have h00:=(hL 0 (by omega)).2 0 _ rfl
   obtain ⟨b,o,rfl⟩:=spotless h00 rfl
   exact ⟨b,o,rfl,fun j v hv=>by have:=(hL i hi).2 j v hv;rw [Addr.add_lit] at this;rw [Nat.add_assoc];exact this⟩
  ·intro e he
   obtain ⟨i,hi,rfl⟩:=List.mem_map.1 he
   exact (hL i (by simpa using hi)).1
theorem nY_ {H:Type} {enc:TypeId×Value->H} {w:World} {spare:Nat->Bool} {held:Bool} {a:Option Addr} {n cap:Nat} {d:DataW H} {p:List MemPlace}
  (h:DataW.Trod enc Tryz.prog w 0 spare held 44 (.slice a n cap) d p):n<=maxLen∧∃ l:List Dp,DpsAt w a n l∧∀ e∈l,e.nm.size<=maxLen∧e.tt.size<=maxLen∧e.d.size<=maxLen:=by
 obtain ⟨fuel,hf⟩:=h
 rcases open_slice Tryz.underlying44 hf with ⟨hcs,_⟩ | ⟨ad,len,cap',m,n',D,Pl,hcs,_,hl,hm,hmm,_,hel⟩
 ·simp [Value.cells] at hcs
  obtain ⟨rfl,rfl,rfl⟩:=hcs
  exact ⟨Nat.zero_le _,[],⟨rfl,fun i x hx=>by simp at hx⟩,by simp⟩
 ·simp [Value.cells] at hcs
  obtain ⟨rfl,rfl,rfl⟩:=hcs
  have hle:n<=m:=by rw [hmm];split<;>omega
  refine ⟨Nat.le_trans hl hm,?_⟩
  have hone:∀ i,i<n->∃ q:Dp,(q.nm.size<=maxLen∧q.tt.size<=maxLen∧q.d.size<=maxLen)∧∀ j v,q.cs[j]?=some v->w.cell? (ad.add (i*4+j))=some v:=by
   intro i hi
   obtain ⟨cs',h1,h2⟩:=hel i (by omega)
   rw [show Tryz.prog.cellsOf 194=4 by kernel_rfl] at h1
   obtain ⟨_,hlen,hcell⟩:=World.cells?_some h1
   obtain ⟨y0,y1,y2,y3,_,_,_,t0,t1,t2,t3⟩:=trod_struct4 Tryz.underlying194 h2
   obtain ⟨z0,e0,_,_⟩:=DataW.trod_int Tryz.underlying2 t0
   obtain ⟨z1,e1,_,hz1⟩:=DataW.trod_string Tryz.underlying9 t1
   obtain ⟨z2,e2,_,hz2⟩:=DataW.trod_string Tryz.underlying9 t2
   obtain ⟨z3,e3,_,hz3⟩:=DataW.trod_string Tryz.underlying9 t3
   match cs',hlen with
   |[x0,x1,x2,x3],_=>
    simp [cS1,cI1] at e0 e1 e2 e3
    subst e0 e1 e2 e3
    refine ⟨⟨z0,z1,z2,z3⟩,⟨hz1,hz2,hz3⟩,fun j v hv=>?_⟩
    have hj:j<4:=by have:=(List.getElem?_eq_some_iff.1 hv).1;simpa [Dp.cs] using this
    have:=hcell j hj
    rw [Addr.add_add] at this
    rw [this];exact hv
  have hinh:Inhabited Dp:=⟨⟨0,.empty,.empty,.empty⟩⟩
  obtain ⟨L,hL⟩:=choose_lt (α:=Dp) (p:=fun i q=>(q.nm.size<=maxLen∧q.tt.size<=maxLen∧q.d.size<=maxLen)∧∀ j v,q.cs[j]?=some v->w.cell? (ad.add (i*4+j))=some v) hone
  refine ⟨(List.range n).map L,⟨by simp,fun i x hx=>?_⟩,?_⟩
  ·have hi:i<n:=by have:=(List.getElem?_eq_some_iff.1 hx).1;simpa using this
   simp [hi] at hx
   subst hx
   have h00:=(hL 0 (by omega)).2 0 _ rfl
   obtain ⟨b,o,rfl⟩:=spotless h00 rfl
   exact ⟨b,o,rfl,fun j v hv=>by have:=(hL i hi).2 j v hv;rw [Addr.add_lit] at this;rw [Nat.add_assoc];exact this⟩
  ·intro e he
   obtain ⟨i,hi,rfl⟩:=List.mem_map.1 he
   exact (hL i (by simpa using hi)).1
theorem DiskL.cells {w:World} {v:Value} {d:Dk} (h:DiskL w v d):∃ la ln lc sa sn sc oa on oc,v=.agg #[.slice la ln lc,.slice sa sn sc,.slice oa on oc]:=by
 obtain ⟨la,ln,lc,sa,sn,sc,oa,on,oc,rfl,_⟩:=h
 exact ⟨_,_,_,_,_,_,_,_,_,rfl⟩
theorem dc_ {H:Type} {enc:TypeId×Value->H} {P:Program} {w:World} {spare:Nat->Bool} {held:Bool} {t e:TypeId} {fuel:Nat} {x:Value} {y:DataW H×List MemPlace} (ht:P.underlying t=some (.slice e)) (h:DataW.trod enc P w 0 spare held fuel t [x]=some y) :
  ∃ a n cap,x=.slice a n cap:=by
 rcases open_slice ht h with ⟨hcs,_⟩ | ⟨ad,len,cap',m,n',D,Pl,hcs,_,hl,hm,_⟩
 ·exact ⟨none,0,0,by simpa using hcs⟩
 ·exact ⟨some ad,len,cap',by simpa using hcs⟩
theorem array3 {α:Type} {cs:Array α} (h:cs.size=3):∃ c0 c1 c2,cs=#[c0,c1,c2]:=by
 obtain ⟨l⟩:=cs
 match l,h with
 |[c0,c1,c2],_=>exact ⟨c0,c1,c2,rfl⟩
theorem hE_ {H:Type} {enc:TypeId×Value->H} {W:World} {r:Reach} {b0:Nat} {spare:Nat->Bool} {held:Bool} {v:Value} {d:DataW H} {p:List MemPlace}
  (hv:Value.okWide Tryz.prog W r b0 46 v) (h:DataW.Trod enc Tryz.prog W 0 spare held 46 v d p) :
  ∃ q:Dk,DiskL W v q∧BigD q:=by
 have hc:Tryz.prog.cellsOf 46=3:=by kernel_rfl
 have hcF:Tryz.prog.cellsOf 43=1:=by kernel_rfl
 have hcD:Tryz.prog.cellsOf 44=1:=by kernel_rfl
 obtain ⟨cs,rfl,hsz⟩:=okWide_struct Tryz.underlying46 hv
 obtain ⟨c0,c1,c2,rfl⟩:=array3 (hsz.trans hc)
 obtain ⟨fuel,hf⟩:=h
 obtain ⟨xs,n,_,_,_,hlen,hx⟩:=DataW.trod_struct Tryz.underlying46 hf
 have len3:xs.length=3:=hlen
 have q0:DataW.trod enc Tryz.prog W 0 spare held n 43 [c0]=some (xs[0]'(by omega)):=by
  have:=hx 0 _ rfl
  rw [List.getElem?_eq_getElem (by omega)] at this
  simpa [Value.cells,hcF] using this
 have q1:DataW.trod enc Tryz.prog W 0 spare held n 43 [c1]=some (xs[1]'(by omega)):=by
  have:=hx 1 _ rfl
  rw [List.getElem?_eq_getElem (by omega)] at this
  simpa [Value.cells,hcF] using this
 have q2:DataW.trod enc Tryz.prog W 0 spare held n 44 [c2]=some (xs[2]'(by omega)):=by
  have:=hx 2 _ rfl
  rw [List.getElem?_eq_getElem (by omega)] at this
  simpa [Value.cells,hcD] using this
 obtain ⟨la,ln,lc,rfl⟩:=dc_ Tryz.underlying43 q0
 obtain ⟨sa,sn,sc,rfl⟩:=dc_ Tryz.underlying43 q1
 obtain ⟨oa,on,oc,rfl⟩:=dc_ Tryz.underlying44 q2
 obtain ⟨m1,live,h1,s1⟩:=j0_ (d:=(xs[0]'(by omega)).1) (p:=(xs[0]'(by omega)).2) ⟨_,q0⟩
 obtain ⟨m2,safe,h2,s2⟩:=j0_ (d:=(xs[1]'(by omega)).1) (p:=(xs[1]'(by omega)).2) ⟨_,q1⟩
 obtain ⟨m3,ops,h3,s3⟩:=nY_ (d:=(xs[2]'(by omega)).1) (p:=(xs[2]'(by omega)).2) ⟨_,q2⟩
 unfold maxLen at s1 s2 s3 m1 m2 m3
 refine ⟨⟨live,safe,ops⟩,⟨la,ln,lc,sa,sn,sc,oa,on,oc,rfl,h1,h2,h3⟩,⟨?_,?_⟩,⟨?_,?_⟩,?_,?_⟩
 ·show live.length<=_;rw [h1.len];omega
 ·exact fun e he=>by have:=s1 e he;exact ⟨by omega,by omega⟩
 ·show safe.length<=_;rw [h2.len];omega
 ·exact fun e he=>by have:=s2 e he;exact ⟨by omega,by omega⟩
 ·show ops.length<=_;rw [h3.len];omega
 ·exact fun e he=>by have:=s3 e he;exact ⟨by omega,by omega,by omega⟩
end Go.Proofs.YtigldeccfpkdmaaGreatDoor
namespace Go.Proofs.YtigldeccfpkdmaaGreatDoor
open Go Go.RowKit Go.BigFrame
set_option maxHeartbeats 20000000
set_option maxRecDepth 100000
def LitJ (B:Nat) (t:TypeId) (u:World) (x:Value):Prop:=∃ b,x=.slice (some ⟨b,0,none⟩) 0 0∧Blk u b #[] t∧B<=b
def ResJ {α:Type} (cs:α->List Value) (sz:Nat) (t:TypeId) (B n:Nat) (l:List α) (u:World) (x:Value):Prop:=∃ a cap,x=.slice a n cap∧ResAt cs sz t u B a n cap l
theorem LitJ.below {B:Nat} {t:TypeId} {u u':World} {x:Value} (h:LitJ B t u x) (hb:Below u.heap.size u u'):LitJ B t u' x:=by
 obtain ⟨b,h1,h2,h3⟩:=h
 exact ⟨b,h1,h2.below hb,h3⟩
theorem ResJ.below {α:Type} {cs:α->List Value} {sz:Nat} {t:TypeId} {B n:Nat} {l:List α} {u u':World} {x:Value} (h:ResJ cs sz t B n l u x) (hb:Below u.heap.size u u'):ResJ cs sz t B n l u' x:=by
 obtain ⟨a,cap,h1,h2⟩:=h
 exact ⟨a,cap,h1,h2.below hb⟩
/-- A disk whose three lists are answers. -/
def DiskR (B:Nat) (w:World) (v:Value) (d:Dk):Prop:=∃ la ln lc sa sn sc oa on oc,v=.agg #[.slice la ln lc,.slice sa sn sc,.slice oa on oc]∧ResAt Fl.cs 2 123 w B la ln lc d.live∧ResAt Fl.cs 2 123 w B sa sn sc d.safe∧ResAt Dp.cs 4 120 w B oa on oc d.ops
theorem DiskR.below {B:Nat} {w w':World} {v:Value} {d:Dk} (h:DiskR B w v d) (hb:Below w.heap.size w w'):DiskR B w' v d:=by
 obtain ⟨la,ln,lc,sa,sn,sc,oa,on,oc,hv,h1,h2,h3⟩:=h
 exact ⟨la,ln,lc,sa,sn,sc,oa,on,oc,hv,h1.below hb,h2.below hb,h3.below hb⟩
theorem DiskR.mono {B B':Nat} {w:World} {v:Value} {d:Dk} (h:DiskR B w v d) (hb:B'<=B):DiskR B' w v d:=by
 obtain ⟨la,ln,lc,sa,sn,sc,oa,on,oc,hv,h1,h2,h3⟩:=h
 exact ⟨la,ln,lc,sa,sn,sc,oa,on,oc,hv,h1.mono hb,h2.mono hb,h3.mono hb⟩
theorem DiskR.at {B:Nat} {w:World} {v:Value} {d:Dk} (h:DiskR B w v d):DiskAt w v d:=by
 obtain ⟨la,ln,lc,sa,sn,sc,oa,on,oc,hv,h1,h2,h3⟩:=h
 exact ⟨la,ln,lc,sa,sn,sc,oa,on,oc,hv,h1.slH,h2.slH,h3.slH⟩
theorem DiskR.off {B b:Nat} {w w':World} {v:Value} {d:Dk} (h:DiskR B w v d) (hg:w.grownBy w' (some b)) (hb:b<B):DiskR B w' v d:=by
 obtain ⟨la,ln,lc,sa,sn,sc,oa,on,oc,hv,h1,h2,h3⟩:=h
 exact ⟨la,ln,lc,sa,sn,sc,oa,on,oc,hv,h1.grown hg (fun ad e=>by have:=(h1.block ad e).1;omega),h2.grown hg (fun ad e=>by have:=(h2.block ad e).1;omega),h3.grown hg (fun ad e=>by have:=(h3.block ad e).1;omega)⟩
/-- A goal that the walk leaves alone. -/
structure Held (p:Prop):Prop where
 out:p
/-- A disk whose three lists are answers that lie apart. -/
def DiskS (B:Nat) (w:World) (v:Value) (d:Dk):Prop:=∃ la ln lc sa sn sc oa on oc,v=.agg #[.slice la ln lc,.slice sa sn sc,.slice oa on oc]∧ResAt Fl.cs 2 123 w B la ln lc d.live∧ResAt Fl.cs 2 123 w B sa sn sc d.safe∧ResAt Dp.cs 4 120 w B oa on oc d.ops∧∀ x y,la=some x->sa=some y->x.block≠y.block
theorem DiskS.below {B:Nat} {w w':World} {v:Value} {d:Dk} (h:DiskS B w v d) (hb:Below w.heap.size w w'):DiskS B w' v d:=by
 obtain ⟨la,ln,lc,sa,sn,sc,oa,on,oc,hv,h1,h2,h3,h4⟩:=h
 exact ⟨la,ln,lc,sa,sn,sc,oa,on,oc,hv,h1.below hb,h2.below hb,h3.below hb,h4⟩
theorem DiskS.mono {B B':Nat} {w:World} {v:Value} {d:Dk} (h:DiskS B w v d) (hb:B'<=B):DiskS B' w v d:=by
 obtain ⟨la,ln,lc,sa,sn,sc,oa,on,oc,hv,h1,h2,h3,h4⟩:=h
 exact ⟨la,ln,lc,sa,sn,sc,oa,on,oc,hv,h1.mono hb,h2.mono hb,h3.mono hb,h4⟩
theorem DiskS.r {B:Nat} {w:World} {v:Value} {d:Dk} (h:DiskS B w v d):DiskR B w v d:=by
 obtain ⟨la,ln,lc,sa,sn,sc,oa,on,oc,hv,h1,h2,h3,_⟩:=h
 exact ⟨la,ln,lc,sa,sn,sc,oa,on,oc,hv,h1,h2,h3⟩
theorem DiskS.wr {B:Nat} {w:World} {v:Value} {d:Dk} (h:DiskS B w v d):DiskW B w v d:=by
 obtain ⟨la,ln,lc,sa,sn,sc,oa,on,oc,hv,h1,h2,h3,h4⟩:=h
 exact ⟨la,ln,lc,sa,sn,sc,oa,on,oc,hv,h1.wr,h2.wr,h3.wr,h4⟩
theorem DiskS.off {B b:Nat} {w w':World} {v:Value} {d:Dk} (h:DiskS B w v d) (hg:w.grownBy w' (some b)) (hb:b<B):DiskS B w' v d:=by
 obtain ⟨la,ln,lc,sa,sn,sc,oa,on,oc,hv,h1,h2,h3,h4⟩:=h
 exact ⟨la,ln,lc,sa,sn,sc,oa,on,oc,hv,h1.grown hg (fun ad e=>by have:=(h1.block ad e).1;omega),h2.grown hg (fun ad e=>by have:=(h2.block ad e).1;omega),h3.grown hg (fun ad e=>by have:=(h3.block ad e).1;omega),h4⟩
theorem SlH.zero {α:Type} {cs:α->List Value} {sz:Nat} {w:World} {a:Option Addr} {n cap:Nat} {l:List α} (h:SlH cs sz w a n cap l):a=none->n=0∧cap=0:=fun e=>by
 refine ⟨?_,h.nil e⟩
 have hl:=h.sl.len
 cases l with
 |nil=>simpa using hl.symm
 |cons x r=>obtain ⟨b,o,e2,_⟩:=h.sl.cell 0 x rfl;rw [e] at e2;cases e2
end Go.Proofs.YtigldeccfpkdmaaGreatDoor
namespace Go.Proofs.YtigldeccfpkdmaaGreatDoor
open Go.RowKit Go.BigFrame
set_option maxHeartbeats 20000000
set_option maxRecDepth 100000
/-- The slice holds the marks from k0 on. -/
def MarkF (w:World) (a:Option Addr) (n k0:Nat):Prop:=∀ j,j<n->∃ b,a=some ⟨b,0,none⟩∧w.cell? ⟨b,j*2,none⟩=some (.string (markT (k0+2*j)))∧w.cell? ⟨b,j*2+1,none⟩=some (.string (markT (k0+2*j+1)))
theorem MarkF.below {w w':World} {a:Option Addr} {n k0:Nat} (h:MarkF w a n k0) (hb:Below w.heap.size w w'):MarkF w' a n k0:=fun j hj=>by
 obtain ⟨b,ha,c0,c1⟩:=h j hj
 exact ⟨b,ha,bcell hb c0,bcell hb c1⟩
theorem MarkF.off {w w':World} {a:Option Addr} {n k0:Nat} {row:Option Nat} (h:MarkF w a n k0) (hg:w.grownBy w' row) (hr:0<n->∀ ad,a=some ad->some ad.block≠row):MarkF w' a n k0:=fun j hj=>by
 obtain ⟨b,ha,c0,c1⟩:=h j hj
 have hne:=hr (by omega) _ ha
 exact ⟨b,ha,hg.cell c0 hne,hg.cell c1 hne⟩
/-- The slice holds the marks from k0 on. -/
def MarkD (w:World) (a:Option Addr) (n k0:Nat):Prop:=∀ j,j<n->∃ b,a=some ⟨b,0,none⟩∧w.cell? ⟨b,j*4,none⟩=some (.int .i64 ((k0+4*j:Nat):Int))∧w.cell? ⟨b,j*4+1,none⟩=some (.string (markT (k0+4*j+1)))∧w.cell? ⟨b,j*4+2,none⟩=some (.string (markT (k0+4*j+2)))∧w.cell? ⟨b,j*4+3,none⟩=some (.string (markT (k0+4*j+3)))
theorem MarkD.below {w w':World} {a:Option Addr} {n k0:Nat} (h:MarkD w a n k0) (hb:Below w.heap.size w w'):MarkD w' a n k0:=fun j hj=>by
 obtain ⟨b,ha,c0,c1,c2,c3⟩:=h j hj
 exact ⟨b,ha,bcell hb c0,bcell hb c1,bcell hb c2,bcell hb c3⟩
theorem MarkD.off {w w':World} {a:Option Addr} {n k0:Nat} {row:Option Nat} (h:MarkD w a n k0) (hg:w.grownBy w' row) (hr:0<n->∀ ad,a=some ad->some ad.block≠row):MarkD w' a n k0:=fun j hj=>by
 obtain ⟨b,ha,c0,c1,c2,c3⟩:=h j hj
 have hne:=hr (by omega) _ ha
 exact ⟨b,ha,hg.cell c0 hne,hg.cell c1 hne,hg.cell c2 hne,hg.cell c3 hne⟩
end Go.Proofs.YtigldeccfpkdmaaGreatDoor
