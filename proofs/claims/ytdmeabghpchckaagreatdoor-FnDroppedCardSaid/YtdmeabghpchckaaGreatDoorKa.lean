/- At every code: what is dropped, or unlinked, is not there, and behind a flush its room is free as far as nobody else names it: the walk. -/
import Derived.Test.YtdmeabghpchckaaGreatDoorKr
set_option maxHeartbeats 20000000
set_option maxRecDepth 100000
namespace Go.Proofs.YtdmeabghpchckaaGreatDoor
open Go Go.RowKit Go.BigFrame _root_.Go.Proofs.Tryz
theorem laws_bigC (a:Option Addr)(n cap:Nat)(w:World)(hn:n<=9223372036854775807) :
  Calls prog 5 #[.slice a n cap] w fun e w'=>e=.returned (.bool (decide (1048576<n)))∧w'=w:=by
 go_enter func5,ntmps5
 go_wp2
 go_returns
 go_light
 refine ⟨ac_ ?_,rfl⟩
 rw[YH]
 simp
 omega
theorem vol_opD {o:Opr}(h:opB o=true)(hk:o.k=7∨o.k=4):o.vol.size<=1048576:=by
 unfold opB at h
 rcases hk with hk | hk
 ·rw[if_pos (by omega)] at h
  simp only[nameB,Zf,ZU] at h
  omega
 ·rw[if_neg (by omega),if_neg (by omega),if_neg (by omega),if_pos hk] at h
  simp only[nameB,Zf,ZU] at h
  omega
theorem room_at {B:Nat}{w:World}{p:Po}{ea va ra la:Option Addr}{en ec vn vc rn rc ln lc:Nat}(h:AF B w (.agg #[.int .i64 p.size,.int .i64 p.next,.slice ea en ec,.slice va vn vc,.slice ra rn rc,.slice la ln lc]) p)(hd:AB p):∀ u,Below w.heap.size w u->Calls prog 14 #[.int .i64 p.size,.slice ea en ec] u fun e w'=>e=.returned (.int .i64 (roomV p.size p.ex))∧Below u.heap.size u w':=by
 obtain⟨_,_,_,_,_,_,_,_,_,_,_,_,hv,⟨h1,_⟩,_⟩:=h
 simp only[Value.agg.injEq,Array.mk.injEq,List.cons.injEq,Value.slice.injEq,and_true,true_and] at hv
 obtain⟨⟨rfl,rfl,rfl⟩,_,_,_⟩:=hv
 intro u hu
 exact impl_RoomOf p.size ea en ec p.ex u (h1.below hu) hd.2.1 (by rw[<-h1.len];exact hd.1) fun ad h0 hb=>by
  obtain⟨b,o,q,ha,_,hc,_⟩:=be_ (h1.below hu) h0
  rw[hb] at ha
  cases ha
  exact Yk _ _ hc
theorem str_flush:BA ⟨9,⟨#[]⟩,⟨#[]⟩,⟨#[]⟩,⟨#[]⟩,0,0,0,⟨#[]⟩⟩:=⟨Zg _,Zg _,Zg _,Zg _,Zg _⟩
theorem walkDr (S:Addr->Prop)(ep:Addr)(a:Option Addr)(n cap:Nat)(w:World)(h:Ch w a n)(hm:n<=9223372036854775807)(hE:F8 S ep w)(hgl:11<=w.heap.size) :
  Calls prog 4 #[.slice a n cap] w fun e w'=>e=.returned (.bool true)∧Below w.heap.size w w':=by
 by_cases hn:n<=1048576
 ·have hb:decide (1048576<n)=false:=by simp;omega
  go_enter func4,ntmps4
  go_wp2_with fail
  refine (laws_bigC a n cap _ hm).mono ?_
  rintro e w1 ⟨rfl,rfl⟩
  rw[hb]
  go_wp2_with fail
  refine (GY a n cap _ h hn).mono ?_
  rintro e w2 ⟨⟨v,p,o,rfl,PT,hO,hV⟩,hJ⟩
  have hd:=hO.1
  have hA:=PT.at'
  obtain⟨ea,en,ec,va,vn,vc,ra,rn,rc,la,ln,lc,rows,rfl,hf⟩:=PT
  clear hf hO hb
  go_wp2_with fail
  have hW:Below w2.heap.size w2 ((w2.alloc (.cells #[.int .i64 p.size,.int .i64 p.next,.slice ea en ec,.slice va vn vc,.slice ra rn rc,.slice la ln lc] 28)).alloc (.cells #[.int .i64 o.k,.string o.vol,.string o.file,.string o.to,.string o.into,.int .i64 o.at',.int .i64 o.fr,.int .i64 o.ln,.string o.data] 33)):=by go_grown
  have P:=(Blk.new w2 #[.int .i64 p.size,.int .i64 p.next,.slice ea en ec,.slice va vn vc,.slice ra rn rc,.slice la ln lc] 28).alloc (.cells #[.int .i64 o.k,.string o.vol,.string o.file,.string o.to,.string o.into,.int .i64 o.at',.int .i64 o.fr,.int .i64 o.ln,.string o.data] 33)
  have Q:Blk ((w2.alloc (.cells #[.int .i64 p.size,.int .i64 p.next,.slice ea en ec,.slice va vn vc,.slice ra rn rc,.slice la ln lc] 28)).alloc (.cells #[.int .i64 o.k,.string o.vol,.string o.file,.string o.to,.string o.into,.int .i64 o.at',.int .i64 o.fr,.int .i64 o.ln,.string o.data] 33)) (w2.heap.size+1) #[.int .i64 o.k,.string o.vol,.string o.file,.string o.to,.string o.into,.int .i64 o.at',.int .i64 o.fr,.int .i64 o.ln,.string o.data] 33:=Blk.new' _ _ _ _ (by simp)
  have hC:=Aa hJ hW
  replace hA:=hA.below hW
  have qc:=hJ.size
  generalize (w2.alloc (.cells #[.int .i64 p.size,.int .i64 p.next,.slice ea en ec,.slice va vn vc,.slice ra rn rc,.slice la ln lc] 28)).alloc (.cells #[.int .i64 o.k,.string o.vol,.string o.file,.string o.to,.string o.into,.int .i64 o.at',.int .i64 o.fr,.int .i64 o.ln,.string o.data] 33)=w3 at *
  have hL:=hE.below hC
  have hw:11<=w3.heap.size:=by have:=hC.size;omega
  clear hW hJ
  refine (nV_ S ep (w1.heap.size+1) (by omega) _ p o w3 hA hd hV hL hw).mono ?_
  rintro e w4 ⟨⟨v1,c,rfl,hc,PX,hB⟩,ha⟩
  have hN:=(PX.t.mono (show 1<=w3.heap.size by omega)).at'
  obtain⟨R,hR⟩:∃ R,Hid (Bz p o=R):=⟨_,rfl⟩
  rw[hR.out] at hc hN hB
  obtain⟨q,hq⟩:∃ q,Hid (R.2=q):=⟨_,rfl⟩
  rw[hq.out] at hN hB
  clear PX
  obtain⟨ea1,en1,ec1,va1,vn1,vc1,ra1,rn1,rc1,la1,ln1,lc1,rfl⟩:=hN.cells
  replace P:=P.below ha
  replace Q:=Q.below ha
  replace hA:=hA.below ha
  replace hC:=Aa hC ha
  clear ha hL hw
  have p0:=fun ob=>Am (w:=w4) ob (En P).1
  have p1:=fun ob=>Am (w:=w4) ob (En P).2.1
  have p2:=fun ob=>Am (w:=w4) ob (En P).2.2.1
  have p3:=fun ob=>Am (w:=w4) ob (En P).2.2.2.1
  have p4:=fun ob=>Am (w:=w4) ob (En P).2.2.2.2.1
  have p5:=fun ob=>Am (w:=w4) ob (En P).2.2.2.2.2
  obtain⟨q0,q1,q2,q3,q4,q5,q6,q7,q8⟩:=ce9 (Q.alloc (.cells #[.int .i64 q.size,.int .i64 q.next,.slice ea1 en1 ec1,.slice va1 vn1 vc1,.slice ra1 rn1 rc1,.slice la1 ln1 lc1] 28))
  go_wp2_with fail
  have hW:Below w4.heap.size w4 (w4.alloc (.cells #[.int .i64 q.size,.int .i64 q.next,.slice ea1 en1 ec1,.slice va1 vn1 vc1,.slice ra1 rn1 rc1,.slice la1 ln1 lc1] 28)):=(Yg _ _).alloc (Zd _) _
  have E:=Blk.new w4 #[.int .i64 q.size,.int .i64 q.next,.slice ea1 en1 ec1,.slice va1 vn1 vc1,.slice ra1 rn1 rc1,.slice la1 ln1 lc1] 28
  clear p0 p1 p2 p3 p4 p5 q0 q1 q2 q3 q4 q5 q6 q7 q8
  replace P:=P.below hW
  replace Q:=Q.below hW
  replace hA:=hA.below hW
  replace hN:=hN.below hW
  replace hC:=Aa hC hW
  obtain⟨nb,hU⟩:∃ nb,nb=w4.heap.size:=⟨_,rfl⟩
  generalize w4.alloc (.cells #[.int .i64 q.size,.int .i64 q.next,.slice ea1 en1 ec1,.slice va1 vn1 vc1,.slice ra1 rn1 rc1,.slice la1 ln1 lc1] 28)=w5 at *
  rw[<-hU] at E ⊢
  clear hW hU
  refine (nK_ (w1.heap.size+1) (by omega) _ p o w5 hA hd hV).mono ?_
  rintro e w6 ⟨⟨v2,c2,rfl,hM,PX,_⟩,ht⟩
  rw[hR.out] at hM PX
  rw[hq.out] at PX
  obtain⟨ea2,en2,ec2,va2,vn2,vc2,ra2,rn2,rc2,la2,ln2,lc2,rows2,rfl,hf⟩:=PX
  clear hf
  subst hc
  subst hM
  replace P:=P.below ht
  replace Q:=Q.below ht
  replace E:=E.below ht
  replace hA:=hA.below ht
  replace hN:=hN.below ht
  replace hC:=Aa hC ht
  clear ht
  have hW:Below w6.heap.size w6 (w6.alloc (.cells #[.int .i64 q.size,.int .i64 q.next,.slice ea2 en2 ec2,.slice va2 vn2 vc2,.slice ra2 rn2 rc2,.slice la2 ln2 lc2] 28)):=(Yg _ _).alloc (Zd _) _
  replace P:=P.below hW
  replace Q:=Q.below hW
  replace E:=E.below hW
  replace hA:=hA.below hW
  replace hN:=hN.below hW
  replace hC:=Aa hC hW
  obtain⟨c,hc⟩:∃ c,Hid (R.1=c):=⟨_,rfl⟩
  rw[hc.out]
  obtain⟨q0,q1,q2,q3,q4,q5,q6,q7,q8⟩:=ce9 Q
  obtain⟨p0,p1,p2,p3,p4,p5⟩:=En P
  by_cases hc0:c=0
  ·subst hc0
   obtain⟨hp,hy⟩:=DU hR.out (by rw[hc.out];decide)
   cases hQ:(o.k==7)
   ·cases hP:(o.k==4)
    ·have hT:¬ o.k=7:=by simpa using hQ
     have hS:¬ o.k=4:=by simpa using hP
     have f7:(o.k != 7)=true:=by simpa using hT
     have f4:(o.k != 4)=true:=by simpa using hS
     have d7:decide (o.k=7)=false:=YV hT
     have d4:decide (o.k=4)=false:=YV hS
     go_wp2
     go_returns
     exact⟨rfl,hC⟩
    ·have hg:o.k=4:=by simpa using hP
     obtain⟨ho,s1⟩:=unlink_after hp hg (by rw[hy];exact hc.out)
     have hr:=vol_opD ho (Or.inr hg)
     rw[hy,hq.out] at s1
     obtain⟨⟨x,xb⟩,hx⟩:∃ x,Hid (Dx q o.vol o.file=x):=⟨_,rfl⟩
     rw[hx.out] at s1
     obtain rfl:xb=false:=s1
     replace hg:Hid (o.k=4):=hg
     clear hy hp
     rw[hg.out] at q0
     obtain⟨e0,e1,e2,e3,e4,e5⟩:=En E
     go_wp2_with fail
     generalize w6.alloc (.cells #[.int .i64 q.size,.int .i64 q.next,.slice ea2 en2 ec2,.slice va2 vn2 vc2,.slice ra2 rn2 rc2,.slice la2 ln2 lc2] 28)=w7 at *
     clear hW q0 q1 q2 q3 q4 q5 q6 q7 q8 p0 p1 p2 p3 p4 p5 e0 e1 e2 e3 e4 e5
     refine (EX 1 _ q o.vol o.file w7 hN hB hr).mono ?_
     rintro e w8 ⟨rfl,hh⟩
     rw[hx.out]
     go_wp2
     go_returns
     exact⟨rfl,Aa hC hh⟩
   ·have he:o.k=7:=by simpa using hQ
    obtain⟨ho,hG,s1,ra',rm,z1,z2,z3,b0,b1,b2,b3⟩:=drop_after hp he (by rw[hy];exact hc.out)
    have hr:=vol_opD ho (Or.inl he)
    rw[hy,hq.out] at s1 z3 hG
    replace s1:Hid _:=s1
    replace z1:Hid _:=z1
    replace z2:Hid _:=z2
    replace z3:Hid _:=z3
    replace hG:Hid (Ai q=true):=hG
    replace he:Hid (o.k=7):=he
    replace hp:Hid (Ai p=true):=hp
    clear hy
    rw[he.out] at q0
    go_wp2_with fail
    generalize w6.alloc (.cells #[.int .i64 q.size,.int .i64 q.next,.slice ea2 en2 ec2,.slice va2 vn2 vc2,.slice ra2 rn2 rc2,.slice la2 ln2 lc2] 28)=w7 at *
    clear hW q0 q1 q2 q3 q4 q5 q6 q7 q8 p0 p1 p2 p3 p4 p5
    refine (impl_OnlyOf (w1.heap.size+1) (by omega) _ p o.vol w7 hA hd hr).mono ?_
    rintro e w8 ⟨rfl,hh⟩
    rw[z2.out]
    generalize (onlyO p o.vol).2=bo
    replace P:=P.below hh
    replace Q:=Q.below hh
    replace E:=E.below hh
    replace hA:=hA.below hh
    replace hN:=hN.below hh
    replace hC:=Aa hC hh
    clear hh z2
    obtain⟨q0,q1,q2,q3,q4,q5,q6,q7,q8⟩:=ce9 Q
    obtain⟨p0,p1,p2,p3,p4,p5⟩:=En P
    rw[he.out] at q0
    go_wp2_with fail
    clear q0 q1 q2 q3 q4 q5 q6 q7 q8 p0 p1 p2 p3 p4 p5
    refine (nV_ S ep (w1.heap.size+1) (by omega) _ p ⟨9,⟨#[]⟩,⟨#[]⟩,⟨#[]⟩,⟨#[]⟩,0,0,0,⟨#[]⟩⟩ w8 hA hd str_flush (hE.below hC) (Zl hgl hC.size)).mono ?_
    rintro e w9 ⟨⟨vf,cf,rfl,hK,PX,hk⟩,hs⟩
    rw[flush_done hp.out] at hK PX hk
    dsimp only at hK PX hk
    have hj:=(PX.t.mono (show 1<=w8.heap.size by have:=hC.size;omega)).at'
    clear PX
    obtain⟨ea3,en3,ec3,va3,vn3,vc3,ra3,rn3,rc3,la3,ln3,lc3,rfl⟩:=hj.cells
    replace P:=P.below hs
    replace Q:=Q.below hs
    replace E:=E.below hs
    replace hA:=hA.below hs
    replace hN:=hN.below hs
    replace hC:=Aa hC hs
    clear hs
    obtain⟨g3,hw⟩:∃ g,Hid (flushS p=g):=⟨_,rfl⟩
    rw[hw.out] at hj hk
    rw[hw.out]
    have e0:=fun ob=>Am (w:=w9) ob (En E).1
    have e1:=fun ob=>Am (w:=w9) ob (En E).2.1
    have e2:=fun ob=>Am (w:=w9) ob (En E).2.2.1
    have e3:=fun ob=>Am (w:=w9) ob (En E).2.2.2.1
    have e4:=fun ob=>Am (w:=w9) ob (En E).2.2.2.2.1
    have e5:=fun ob=>Am (w:=w9) ob (En E).2.2.2.2.2
    go_wp2_with fail
    have hW:Below w9.heap.size w9 (w9.alloc (.cells #[.int .i64 g3.size,.int .i64 g3.next,.slice ea3 en3 ec3,.slice va3 vn3 vc3,.slice ra3 rn3 rc3,.slice la3 ln3 lc3] 28)):=(Yg _ _).alloc (Zd _) _
    have na:=Blk.new w9 #[.int .i64 g3.size,.int .i64 g3.next,.slice ea3 en3 ec3,.slice va3 vn3 vc3,.slice ra3 rn3 rc3,.slice la3 ln3 lc3] 28
    clear e0 e1 e2 e3 e4 e5
    replace P:=P.below hW
    replace Q:=Q.below hW
    replace E:=E.below hW
    replace hA:=hA.below hW
    replace hN:=hN.below hW
    replace hj:=hj.below hW
    replace hC:=Aa hC hW
    generalize w9.alloc (.cells #[.int .i64 g3.size,.int .i64 g3.next,.slice ea3 en3 ec3,.slice va3 vn3 vc3,.slice ra3 rn3 rc3,.slice la3 ln3 lc3] 28)=w10 at *
    clear hW
    refine (nV_ S ep 1 Nat.one_pos _ q ⟨9,⟨#[]⟩,⟨#[]⟩,⟨#[]⟩,⟨#[]⟩,0,0,0,⟨#[]⟩⟩ w10 hN hB str_flush (hE.below hC) (Zl hgl hC.size)).mono ?_
    rintro e hF ⟨⟨vf,cf4,rfl,hv,PX,hl⟩,ha⟩
    rw[flush_done hG.out] at hv PX hl
    dsimp only at hv PX hl
    have hz:=(PX.t.mono (show 1<=w10.heap.size by have:=hC.size;omega)).at'
    clear PX
    obtain⟨ea4,en4,ec4,va4,vn4,vc4,ra4,rn4,rc4,la4,ln4,lc4,rfl⟩:=hz.cells
    replace P:=P.below ha
    replace Q:=Q.below ha
    replace E:=E.below ha
    replace hA:=hA.below ha
    replace hN:=hN.below ha
    replace hj:=hj.below ha
    replace na:=na.below ha
    replace hC:=Aa hC ha
    clear ha
    obtain⟨g4,hH⟩:∃ g,Hid (flushS q=g):=⟨_,rfl⟩
    rw[hH.out] at hz hl
    rw[hH.out]
    have y1:=z1.out
    have y3:=z3.out
    rw[hw.out] at y1
    rw[hH.out] at y3
    replace y1:Hid _:=y1
    replace y3:Hid _:=y3
    clear z1 z3 hw hH hK hv
    go_wp2_with fail
    have hW:Below hF.heap.size hF (hF.alloc (.cells #[.int .i64 g4.size,.int .i64 g4.next,.slice ea4 en4 ec4,.slice va4 vn4 vc4,.slice ra4 rn4 rc4,.slice la4 ln4 lc4] 28)):=(Yg _ _).alloc (Zd _) _
    have nc:=Blk.new hF #[.int .i64 g4.size,.int .i64 g4.next,.slice ea4 en4 ec4,.slice va4 vn4 vc4,.slice ra4 rn4 rc4,.slice la4 ln4 lc4] 28
    replace Q:=Q.below hW
    replace E:=E.below hW
    replace hN:=hN.below hW
    replace hj:=hj.below hW
    replace hz:=hz.below hW
    replace na:=na.below hW
    replace hC:=Aa hC hW
    generalize hF.alloc (.cells #[.int .i64 g4.size,.int .i64 g4.next,.slice ea4 en4 ec4,.slice va4 vn4 vc4,.slice ra4 rn4 rc4,.slice la4 ln4 lc4] 28)=w12 at *
    clear hW
    have kS:∀ u,Below w12.heap.size w12 u->Calls prog 10 #[.agg #[.int .i64 q.size,.int .i64 q.next,.slice ea1 en1 ec1,.slice va1 vn1 vc1,.slice ra1 rn1 rc1,.slice la1 ln1 lc1],.string o.vol] u fun e w'=>e=.returned (.string ⟨#[110,111,110,101]⟩)∧Below u.heap.size u w':=fun u hu=>by
     have:=HR 1 Nat.one_pos _ q o.vol u (hN.below hu) hB hr
     rw[s1.out] at this;exact this
    have kR1:∀ u,Below w12.heap.size w12 u->Calls prog 14 #[.int .i64 g4.size,.slice ea4 en4 ec4] u fun e w'=>e=.returned (.int .i64 (ra'+rm))∧Below u.heap.size u w':=by
     have:=room_at hz hl
     rw[y3.out] at this;exact this
    have kR2:∀ u,Below w12.heap.size w12 u->Calls prog 14 #[.int .i64 g3.size,.slice ea3 en3 ec3] u fun e w'=>e=.returned (.int .i64 ra')∧Below u.heap.size u w':=by
     have:=room_at hj hk
     rw[y1.out] at this;exact this
    have qb:((⟨#[110,111,110,101]⟩:ByteArray).toList==(⟨#[110,111,110,101]⟩:ByteArray).toList)=true:=by simp
    have h9:(ra'+rm==ra'+rm)=true:=by simp
    obtain⟨q0,q1,q2,q3,q4,q5,q6,q7,q8⟩:=ce9 Q
    obtain⟨e0,e1,e2,e3,e4,e5⟩:=En E
    obtain⟨p0,p1,p2,p3,p4,p5⟩:=En na
    obtain⟨t0,t1,t2,t3,t4,t5⟩:=En nc
    have h5:=Ae q1
    have hX:=Ae e0
    have hY:=Ae e1
    have hZ:=Ae e2
    have h0:=Ae e3
    have h1:=Ae e4
    have h2:=Ae e5
    have h3:=Ae p0
    have h4:=Ae p2
    have h6:=Ae t0
    have h7:=Ae t2
    have qa:=aA_ w12
    refine ab_ (by kernel_rfl) (by kernel_rfl) ?_
    iterate 4 (go_big_quiet_step (first | (go_at_call 10;exact an_ (kS _ (Grw.h _)))))
    iterate 7 (go_big_quiet_step (first | (go_at_call 14;exact an_ (kR1 _ (Grw.h _)))))
    iterate 5 (go_big_quiet_step (first | (go_at_call 14;exact an_ (kR2 _ (Grw.h _)))))
    repeat (go_big_quiet_step (rfl))
    refine wpQuiet_nil ?_
    intro qd hD
    have hI:=ah_ hD
    clear hD kS kR1 kR2
    go_wp2
    go_returns
    exact⟨rfl,Aa hC hI⟩
  ·have h8:(c==0)=false:=ZV.2 hc0
   go_wp2
   go_returns
   exact⟨rfl,hC⟩
 ·have hb:decide (1048576<n)=true:=by simp;omega
  go_enter func4,ntmps4
  go_wp2_with fail
  refine (laws_bigC a n cap _ hm).mono ?_
  rintro e w1 ⟨rfl,rfl⟩
  rw[hb]
  go_wp2
  go_returns
  exact⟨rfl,Yg _ _⟩
end Go.Proofs.YtdmeabghpchckaaGreatDoor
