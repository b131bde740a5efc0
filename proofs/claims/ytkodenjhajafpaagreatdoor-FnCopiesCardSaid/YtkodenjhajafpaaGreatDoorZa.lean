/- At every code: what is copied stands where it was copied, a snapshot has what its volume has, and neither takes any room: the walk. -/
import Derived.Test.YtkodenjhajafpaaGreatDoorZp
set_option maxHeartbeats 20000000
set_option maxRecDepth 100000
namespace Go.Proofs.YtkodenjhajafpaaGreatDoor
open Go Go.RowKit Go.BigFrame _root_.Go.Proofs.Tryz
theorem vol_opC {o:Opr}(h:opB o=true)(hk:o.k=5∨o.k=6):o.vol.size<=1048576∧o.to.size<=1048576:=by
 unfold opB at h
 rcases hk with hk | hk
 ·rw[if_neg (by omega),if_neg (by omega),if_neg (by omega),if_neg (by omega),if_neg (by omega),if_pos hk] at h
  simp only[nameB,Zf,ZU] at h
  omega
 ·rw[if_neg (by omega),if_neg (by omega),if_neg (by omega),if_neg (by omega),if_neg (by omega),if_neg (by omega),if_pos hk] at h
  simp only[nameB,Zf,ZU] at h
  omega
theorem room_at {B:Nat}{w:World}{p:Po}{ea va ra la:Option Addr}{en ec vn vc rn rc ln lc:Nat}(h:AF B w (.agg #[.int .i64 p.size,.int .i64 p.next,.slice ea en ec,.slice va vn vc,.slice ra rn rc,.slice la ln lc]) p)(hd:AB p):∀ u,Below w.heap.size w u->Calls prog 14 #[.int .i64 p.size,.slice ea en ec] u fun e w'=>e=.returned (.int .i64 (roomV p.size p.ex))∧Below u.heap.size u w':=by
 obtain⟨_,_,_,_,_,_,_,_,_,_,_,_,hv,⟨h1,_⟩,_⟩:=h
 simp only[Value.agg.injEq,Array.mk.injEq,List.cons.injEq,Value.slice.injEq,and_true,true_and] at hv
 obtain⟨⟨rfl,rfl,rfl⟩,_,_,_⟩:=hv
 intro u hu
 exact impl_RoomOf p.size ea en ec p.ex u (h1.below hu) hd.2.1 (by rw[<-h1.len];exact hd.1) fun ad h0 hb=>by
  obtain⟨b,o,q,ha,_,hc,_⟩:=be_ (h1.below hu) h0
  rw[hb] at ha
  cases ha
  exact Yk _ _ hc
theorem walkCp (S:Addr->Prop)(ep:Addr)(a:Option Addr)(n cap:Nat)(w:World)(h:Co w a n)(hm:n<=9223372036854775807)(hE:Gf S ep w)(hgl:11<=w.heap.size) :
  Calls prog 5 #[.slice a n cap] w fun e w'=>e=.returned (.bool true)∧Below w.heap.size w w':=by
 by_cases hn:n<=1048576
 ·have hb:decide (1048576<n)=false:=by simp;omega
  go_enter func5,ntmps5
  go_wp2_with fail
  refine (HZ a n cap _ hm).mono ?_
  rintro e w1 ⟨rfl,rfl⟩
  rw[hb]
  go_wp2_with fail
  refine (G4 a n cap _ h hn).mono ?_
  rintro e w2 ⟨⟨v,p,o,rfl,PT,hL,hV⟩,hH⟩
  have hd:=hL.1
  have hA:=PT.at'
  obtain⟨ea,en,ec,va,vn,vc,ra,rn,rc,la,ln,lc,rows,rfl,hh⟩:=PT
  clear hh hL hb
  go_wp2_with fail
  have hW:Below w2.heap.size w2 ((w2.alloc (.cells #[.int .i64 p.size,.int .i64 p.next,.slice ea en ec,.slice va vn vc,.slice ra rn rc,.slice la ln lc] 28)).alloc (.cells #[.int .i64 o.k,.string o.vol,.string o.file,.string o.to,.string o.into,.int .i64 o.at',.int .i64 o.fr,.int .i64 o.ln,.string o.data] 30)):=by go_grown
  have P:=(Blk.new w2 #[.int .i64 p.size,.int .i64 p.next,.slice ea en ec,.slice va vn vc,.slice ra rn rc,.slice la ln lc] 28).alloc (.cells #[.int .i64 o.k,.string o.vol,.string o.file,.string o.to,.string o.into,.int .i64 o.at',.int .i64 o.fr,.int .i64 o.ln,.string o.data] 30)
  have Q:Blk ((w2.alloc (.cells #[.int .i64 p.size,.int .i64 p.next,.slice ea en ec,.slice va vn vc,.slice ra rn rc,.slice la ln lc] 28)).alloc (.cells #[.int .i64 o.k,.string o.vol,.string o.file,.string o.to,.string o.into,.int .i64 o.at',.int .i64 o.fr,.int .i64 o.ln,.string o.data] 30)) (w2.heap.size+1) #[.int .i64 o.k,.string o.vol,.string o.file,.string o.to,.string o.into,.int .i64 o.at',.int .i64 o.fr,.int .i64 o.ln,.string o.data] 30:=Blk.new' _ _ _ _ (by simp)
  have hC:=Aa hH hW
  replace hA:=hA.below hW
  have qc:=hH.size
  generalize (w2.alloc (.cells #[.int .i64 p.size,.int .i64 p.next,.slice ea en ec,.slice va vn vc,.slice ra rn rc,.slice la ln lc] 28)).alloc (.cells #[.int .i64 o.k,.string o.vol,.string o.file,.string o.to,.string o.into,.int .i64 o.at',.int .i64 o.fr,.int .i64 o.ln,.string o.data] 30)=w3 at *
  have hJ:=hE.below hC
  have hM:11<=w3.heap.size:=by have:=hC.size;omega
  clear hW hH
  refine (nV_ S ep (w1.heap.size+1) (by omega) _ p o w3 hA hd hV hJ hM).mono ?_
  rintro e w4 ⟨⟨v1,c,rfl,hc,PX,hs⟩,hv⟩
  have hN:=(PX.t.mono (show 1<=w3.heap.size by omega)).at'
  obtain⟨R,hR⟩:∃ R,Hid (BD p o=R):=⟨_,rfl⟩
  rw[hR.out] at hc hN hs
  obtain⟨q,hq⟩:∃ q,Hid (R.2=q):=⟨_,rfl⟩
  rw[hq.out] at hN hs
  clear PX
  obtain⟨ea1,en1,ec1,va1,vn1,vc1,ra1,rn1,rc1,la1,ln1,lc1,rfl⟩:=hN.cells
  replace P:=P.below hv
  replace Q:=Q.below hv
  replace hA:=hA.below hv
  replace hC:=Aa hC hv
  clear hv hJ hM
  have p0:=fun ob=>Am (w:=w4) ob (Es P).1
  have p1:=fun ob=>Am (w:=w4) ob (Es P).2.1
  have p2:=fun ob=>Am (w:=w4) ob (Es P).2.2.1
  have p3:=fun ob=>Am (w:=w4) ob (Es P).2.2.2.1
  have p4:=fun ob=>Am (w:=w4) ob (Es P).2.2.2.2.1
  have p5:=fun ob=>Am (w:=w4) ob (Es P).2.2.2.2.2
  obtain⟨q0,q1,q2,q3,q4,q5,q6,q7,q8⟩:=ce9 (Q.alloc (.cells #[.int .i64 q.size,.int .i64 q.next,.slice ea1 en1 ec1,.slice va1 vn1 vc1,.slice ra1 rn1 rc1,.slice la1 ln1 lc1] 28))
  go_wp2_with fail
  have hW:Below w4.heap.size w4 (w4.alloc (.cells #[.int .i64 q.size,.int .i64 q.next,.slice ea1 en1 ec1,.slice va1 vn1 vc1,.slice ra1 rn1 rc1,.slice la1 ln1 lc1] 28)):=(Yg _ _).alloc (Zd _) _
  have E:=Blk.new w4 #[.int .i64 q.size,.int .i64 q.next,.slice ea1 en1 ec1,.slice va1 vn1 vc1,.slice ra1 rn1 rc1,.slice la1 ln1 lc1] 28
  clear p0 p1 p2 p3 p4 p5 q0 q1 q2 q3 q4 q5 q6 q7 q8
  replace P:=P.below hW
  replace Q:=Q.below hW
  replace hA:=hA.below hW
  replace hN:=hN.below hW
  replace hC:=Aa hC hW
  obtain⟨nb,hU⟩:∃ nb,nb=w4.heap.size:=⟨_,rfl⟩
  generalize w4.alloc (.cells #[.int .i64 q.size,.int .i64 q.next,.slice ea1 en1 ec1,.slice va1 vn1 vc1,.slice ra1 rn1 rc1,.slice la1 ln1 lc1] 28)=w5 at *
  rw[<-hU] at E ⊢
  clear hW hU
  refine (nK_ (w1.heap.size+1) (by omega) _ p o w5 hA hd hV).mono ?_
  rintro e w6 ⟨⟨v2,c2,rfl,hK,PX,_⟩,hk⟩
  rw[hR.out] at hK PX
  rw[hq.out] at PX
  obtain⟨ea2,en2,ec2,va2,vn2,vc2,ra2,rn2,rc2,la2,ln2,lc2,rows2,rfl,hh⟩:=PX
  clear hh
  subst hc
  subst hK
  replace P:=P.below hk
  replace Q:=Q.below hk
  replace E:=E.below hk
  replace hA:=hA.below hk
  replace hN:=hN.below hk
  replace hC:=Aa hC hk
  clear hk
  have hW:Below w6.heap.size w6 (w6.alloc (.cells #[.int .i64 q.size,.int .i64 q.next,.slice ea2 en2 ec2,.slice va2 vn2 vc2,.slice ra2 rn2 rc2,.slice la2 ln2 lc2] 28)):=(Yg _ _).alloc (Zd _) _
  replace P:=P.below hW
  replace Q:=Q.below hW
  replace E:=E.below hW
  replace hA:=hA.below hW
  replace hN:=hN.below hW
  replace hC:=Aa hC hW
  obtain⟨c,hc⟩:∃ c,Hid (R.1=c):=⟨_,rfl⟩
  rw[hc.out]
  obtain⟨q0,q1,q2,q3,q4,q5,q6,q7,q8⟩:=ce9 Q
  obtain⟨p0,p1,p2,p3,p4,p5⟩:=Es P
  by_cases hc0:c=0
  ·subst hc0
   obtain⟨hp,ht⟩:=DY hR.out (by rw[hc.out];decide)
   have hF:Hid (q.size=p.size):=by show _=_;rw[<-op_size p o,ht,hq.out]
   cases hO:(o.k==5)
   ·cases hP:(o.k==6)
    ·have hQ:¬ o.k=5:=by simpa using hO
     have hS:¬ o.k=6:=by simpa using hP
     have f5:(o.k != 5)=true:=by simpa using hQ
     have f6:(o.k != 6)=true:=by simpa using hS
     have d5:decide (o.k=5)=false:=YV hQ
     have d6:decide (o.k=6)=false:=YV hS
     go_wp2
     go_returns
     exact⟨rfl,hC⟩
    ·have hf:o.k=6:=by simpa using hP
     obtain⟨ho,hj,s1,s2,s3⟩:=snap_after hp hf (by rw[ht];exact hc.out)
     have hg:=vol_opC ho (Or.inr hf)
     rw[ht,hq.out] at hj s1 s2
     replace hj:Hid (q.ex=p.ex):=hj
     replace hf:Hid (o.k=6):=hf
     replace hp:Hid (Aj p=true):=hp
     clear ht
     rw[hf.out] at q0
     go_wp2_with fail
     generalize w6.alloc (.cells #[.int .i64 q.size,.int .i64 q.next,.slice ea2 en2 ec2,.slice va2 vn2 vc2,.slice ra2 rn2 rc2,.slice la2 ln2 lc2] 28)=w7 at *
     clear hW q0 q1 q2 q3 q4 q5 q6 q7 q8 p0 p1 p2 p3 p4 p5
     obtain⟨r,hr⟩:∃ r,Hid (roomV p.size p.ex=r):=⟨_,rfl⟩
     have kR2:∀ u,Below w7.heap.size w7 u->Calls prog 14 #[.int .i64 p.size,.slice ea en ec] u fun e w'=>e=.returned (.int .i64 r)∧Below u.heap.size u w':=by
      have:=room_at hA hd
      rw[hr.out] at this;exact this
     have kR1:∀ u,Below w7.heap.size w7 u->Calls prog 14 #[.int .i64 q.size,.slice ea1 en1 ec1] u fun e w'=>e=.returned (.int .i64 r)∧Below u.heap.size u w':=by
      have:=room_at hN hs
      rw[hF.out,hj.out,hr.out] at this
      rw[hF.out];exact this
     have hI:(r != r)=false:=by simp
     obtain⟨q0,q1,q2,q3,q4,q5,q6,q7,q8⟩:=ce9 Q
     obtain⟨p0,p1,p2,p3,p4,p5⟩:=Es P
     obtain⟨e0,e1,e2,e3,e4,e5⟩:=Es E
     rw[hf.out] at q0
     have hz:=Af p0
     have hB:=Af p2
     have hx:=Af e0
     have hy:=Af e2
     have hD:=aA_ w7
     go_wp2_with fail
     refine ab_ (by kernel_rfl) (by kernel_rfl) ?_
     iterate 5 (go_big_quiet_step (first | (go_at_call 14;exact an_ (kR1 _ (Grw.h _)))))
     iterate 5 (go_big_quiet_step (first | (go_at_call 14;exact an_ (kR2 _ (Grw.h _)))))
     repeat (go_big_quiet_step (rfl))
     refine wpQuiet_nil ?_
     intro w8 hw
     have he:=ah_ hw
     clear hw hz hB hx hy hD kR1 kR2 q0 q1 q2 q3 q4 q5 q6 q7 q8 p0 p1 p2 p3 p4 p5 e0 e1 e2 e3 e4 e5 hr hI
     replace P:=P.below he
     replace Q:=Q.below he
     replace E:=E.below he
     replace hA:=hA.below he
     replace hN:=hN.below he
     replace hC:=Aa hC he
     clear he
     obtain⟨T,hT⟩:∃ T,Hid (Dd p o.vol=T):=⟨_,rfl⟩
     rw[hT.out] at s1 s2
     replace s1:Hid _:=s1
     replace s2:Hid _:=s2
     replace s3:Hid _:=s3
     have kS1:∀ u,Below w8.heap.size w8 u->Calls prog 15 #[.agg #[.int .i64 q.size,.int .i64 q.next,.slice ea1 en1 ec1,.slice va1 vn1 vc1,.slice ra1 rn1 rc1,.slice la1 ln1 lc1],.string o.to] u fun e w'=>e=.returned (.string T)∧Below u.heap.size u w':=fun u hu=>by
      have:=H0 1 Nat.one_pos _ q o.to u (hN.below hu) hs hg.2
      rw[s1.out] at this;exact this
     have kS2:∀ u,Below w8.heap.size w8 u->Calls prog 15 #[.agg #[.int .i64 p.size,.int .i64 p.next,.slice ea en ec,.slice va vn vc,.slice ra rn rc,.slice la ln lc],.string o.vol] u fun e w'=>e=.returned (.string T)∧Below u.heap.size u w':=fun u hu=>by
      have:=H0 (w1.heap.size+1) (Nat.succ_pos _) _ p o.vol u (hA.below hu) hd hg.1
      rw[hT.out] at this;exact this
     have kS3:∀ u,Below w8.heap.size w8 u->Calls prog 15 #[.agg #[.int .i64 q.size,.int .i64 q.next,.slice ea1 en1 ec1,.slice va1 vn1 vc1,.slice ra1 rn1 rc1,.slice la1 ln1 lc1],.string o.vol] u fun e w'=>e=.returned (.string T)∧Below u.heap.size u w':=fun u hu=>by
      have:=H0 1 Nat.one_pos _ q o.vol u (hN.below hu) hs hg.1
      rw[s2.out] at this;exact this
     have kS4:∀ u,Below w8.heap.size w8 u->Calls prog 15 #[.agg #[.int .i64 p.size,.int .i64 p.next,.slice ea en ec,.slice va vn vc,.slice ra rn rc,.slice la ln lc],.string o.to] u fun e w'=>e=.returned (.string ⟨#[110,111,110,101]⟩)∧Below u.heap.size u w':=fun u hu=>by
      have:=H0 (w1.heap.size+1) (Nat.succ_pos _) _ p o.to u (hA.below hu) hd hg.2
      rw[s3.out] at this;exact this
     have h9:(T.toList==T.toList)=true:=by simp
     have qb:((⟨#[110,111,110,101]⟩:ByteArray).toList==(⟨#[110,111,110,101]⟩:ByteArray).toList)=true:=by simp
     obtain⟨q0,q1,q2,q3,q4,q5,q6,q7,q8⟩:=ce9 Q
     obtain⟨p0,p1,p2,p3,p4,p5⟩:=Es P
     obtain⟨e0,e1,e2,e3,e4,e5⟩:=Es E
     rw[hf.out] at q0
     have hz:=Af p0
     have hx:=Af e0
     have h2:=Af p1
     have hY:=Af e1
     have hB:=Af p2
     have hy:=Af e2
     have h3:=Af p3
     have hZ:=Af e3
     have h4:=Af p4
     have h0:=Af e4
     have h5:=Af p5
     have h1:=Af e5
     have h6:=Af q0
     have h7:=Af q1
     have h8:=Af q3
     have hD:=aA_ w8
     go_wp2_with fail
     refine ab_ (by kernel_rfl) (by kernel_rfl) ?_
     iterate 4 (go_big_quiet_step (first | (go_at_call 15;exact an_ (kS1 _ (Grw.h _)))))
     iterate 4 (go_big_quiet_step (first | (go_at_call 15;exact an_ (kS2 _ (Grw.h _)))))
     iterate 6 (go_big_quiet_step (first | (go_at_call 15;exact an_ (kS3 _ (Grw.h _)))))
     iterate 4 (go_big_quiet_step (first | (go_at_call 15;exact an_ (kS2 _ (Grw.h _)))))
     iterate 7 (go_big_quiet_step (first | (go_at_call 15;exact an_ (kS4 _ (Grw.h _)))))
     repeat (go_big_quiet_step (rfl))
     refine wpQuiet_nil ?_
     intro w9 hX
     have hl:=ah_ hX
     clear hX kS1 kS2 kS3 kS4
     go_wp2
     go_returns
     exact⟨rfl,Aa hC hl⟩
   ·have ha:o.k=5:=by simpa using hO
    obtain⟨y,ho,hj,b0,b1,a0,a1,l0,l1,r1,r2⟩:=copy_after hp ha (by rw[ht];exact hc.out)
    have hg:=vol_opC ho (Or.inl ha)
    rw[ht,hq.out] at hj r2
    replace hj:Hid (q.ex=p.ex):=hj
    replace r1:Hid _:=r1
    replace r2:Hid _:=r2
    replace ha:Hid (o.k=5):=ha
    replace hp:Hid (Aj p=true):=hp
    clear ht
    rw[ha.out] at q0
    go_wp2_with fail
    generalize w6.alloc (.cells #[.int .i64 q.size,.int .i64 q.next,.slice ea2 en2 ec2,.slice va2 vn2 vc2,.slice ra2 rn2 rc2,.slice la2 ln2 lc2] 28)=w7 at *
    clear hW q0 q1 q2 q3 q4 q5 q6 q7 q8 p0 p1 p2 p3 p4 p5
    obtain⟨r,hr⟩:∃ r,Hid (roomV p.size p.ex=r):=⟨_,rfl⟩
    have kR2:∀ u,Below w7.heap.size w7 u->Calls prog 14 #[.int .i64 p.size,.slice ea en ec] u fun e w'=>e=.returned (.int .i64 r)∧Below u.heap.size u w':=by
     have:=room_at hA hd
     rw[hr.out] at this;exact this
    have kR1:∀ u,Below w7.heap.size w7 u->Calls prog 14 #[.int .i64 q.size,.slice ea1 en1 ec1] u fun e w'=>e=.returned (.int .i64 r)∧Below u.heap.size u w':=by
     have:=room_at hN hs
     rw[hF.out,hj.out,hr.out] at this
     rw[hF.out];exact this
    have hI:(r != r)=false:=by simp
    obtain⟨q0,q1,q2,q3,q4,q5,q6,q7,q8⟩:=ce9 Q
    obtain⟨p0,p1,p2,p3,p4,p5⟩:=Es P
    obtain⟨e0,e1,e2,e3,e4,e5⟩:=Es E
    rw[ha.out] at q0
    have hz:=Af p0
    have hB:=Af p2
    have hx:=Af e0
    have hy:=Af e2
    have hD:=aA_ w7
    go_wp2_with fail
    refine ab_ (by kernel_rfl) (by kernel_rfl) ?_
    iterate 5 (go_big_quiet_step (first | (go_at_call 14;exact an_ (kR1 _ (Grw.h _)))))
    iterate 5 (go_big_quiet_step (first | (go_at_call 14;exact an_ (kR2 _ (Grw.h _)))))
    repeat (go_big_quiet_step (rfl))
    refine wpQuiet_nil ?_
    intro w8 hw
    have he:=ah_ hw
    clear hw hz hB hx hy hD kR1 kR2 q0 q1 q2 q3 q4 q5 q6 q7 q8 p0 p1 p2 p3 p4 p5 e0 e1 e2 e3 e4 e5 hr hI
    replace P:=P.below he
    replace Q:=Q.below he
    replace E:=E.below he
    replace hA:=hA.below he
    replace hN:=hN.below he
    replace hC:=Aa hC he
    clear he
    obtain⟨q0,q1,q2,q3,q4,q5,q6,q7,q8⟩:=ce9 Q
    obtain⟨p0,p1,p2,p3,p4,p5⟩:=Es P
    rw[ha.out] at q0
    go_wp2_with fail
    refine (E7 (w1.heap.size+1) (Nat.succ_pos _) _ p o.vol o.file o.fr (o.fr+o.ln) w8 hA hd hg.1).mono ?_
    rintro e w9 ⟨rfl,hl⟩
    rw[r1.out]
    replace Q:=Q.below hl
    replace E:=E.below hl
    replace hN:=hN.below hl
    replace hC:=Aa hC hl
    clear hl q0 q1 q2 q3 q4 q5 q6 q7 q8 p0 p1 p2 p3 p4 p5 hA
    obtain⟨q0,q1,q2,q3,q4,q5,q6,q7,q8⟩:=ce9 Q
    obtain⟨e0,e1,e2,e3,e4,e5⟩:=Es E
    rw[ha.out] at q0
    go_wp2_with fail
    refine (E7 1 Nat.one_pos _ q o.to o.into o.at' (o.at'+o.ln) w9 hN hs hg.2).mono ?_
    rintro e qe ⟨rfl,hG⟩
    rw[r2.out]
    replace hC:=Aa hC hG
    have qd:(y.toList==y.toList)=true:=by simp
    clear r1 r2
    go_wp2
    go_returns
    exact⟨rfl,hC⟩
  ·have qa:(c==0)=false:=ZV.2 hc0
   go_wp2
   go_returns
   exact⟨rfl,hC⟩
 ·have hb:decide (1048576<n)=true:=by simp;omega
  go_enter func5,ntmps5
  go_wp2_with fail
  refine (HZ a n cap _ hm).mono ?_
  rintro e w1 ⟨rfl,rfl⟩
  rw[hb]
  go_wp2
  go_returns
  exact⟨rfl,Yg _ _⟩
end Go.Proofs.YtkodenjhajafpaaGreatDoor
