/- Ground. -/
import Derived.Test.YtahenegmbmnmjaaGreatDoorT46
set_option maxHeartbeats 20000000
set_option maxRecDepth 100000
namespace Go.Proofs.YtahenegmbmnmjaaGreatDoor
open Go Go.RowKit Go.BigFrame _root_.Go.Proofs.Tryz
theorem walkOp (S:Addr->Prop)(ep:Addr)(a:Option Addr)(n cap:Nat)(w:World)(h:BX w a n)(hm:n<=9223372036854775807)(hE:EX S ep w)(hgl:11<=w.heap.size) :
  Calls prog 13 #[.slice a n cap] w fun e w'=>e=.returned (.bool true)∧Below w.heap.size w w':=by
 by_cases hn:n<=1048576
 ·have hb:decide (1048576<n)=false:=by simp;omega
  go_enter func13,ntmps13
  go_wp2_with fail
  refine (CT a n cap _ hm).mono ?_
  rintro e w1 ⟨rfl,rfl⟩
  rw[hb]
  go_wp2_with fail
  refine (Dd a n cap _ h hn).mono ?_
  rintro e w2 ⟨⟨v,p,o,rfl,PT,ht,hp⟩,hl⟩
  have hd:=ht.1
  have hA:=PT.at'
  obtain⟨ea,en,ec,va,vn,vc,ra,rn,rc,la,ln,lc,rows,rfl,ha⟩:=PT
  clear ha ht hb
  go_wp2_with fail
  have hW:Below w2.heap.size w2 ((w2.alloc (.cells #[.int .i64 p.size,.int .i64 p.next,.slice ea en ec,.slice va vn vc,.slice ra rn rc,.slice la ln lc] 35)).alloc (.cells #[.int .i64 o.k,.string o.vol,.string o.file,.string o.to,.string o.into,.int .i64 o.at',.int .i64 o.fr,.int .i64 o.ln,.string o.data] 39)):=by go_grown
  have P:=(Blk.new w2 #[.int .i64 p.size,.int .i64 p.next,.slice ea en ec,.slice va vn vc,.slice ra rn rc,.slice la ln lc] 35).alloc (.cells #[.int .i64 o.k,.string o.vol,.string o.file,.string o.to,.string o.into,.int .i64 o.at',.int .i64 o.fr,.int .i64 o.ln,.string o.data] 39)
  have Q:Blk ((w2.alloc (.cells #[.int .i64 p.size,.int .i64 p.next,.slice ea en ec,.slice va vn vc,.slice ra rn rc,.slice la ln lc] 35)).alloc (.cells #[.int .i64 o.k,.string o.vol,.string o.file,.string o.to,.string o.into,.int .i64 o.at',.int .i64 o.fr,.int .i64 o.ln,.string o.data] 39)) (w2.heap.size+1) #[.int .i64 o.k,.string o.vol,.string o.file,.string o.to,.string o.into,.int .i64 o.at',.int .i64 o.fr,.int .i64 o.ln,.string o.data] 39:=Blk.new' _ _ _ _ (by simp)
  have hC:=Aa hl hW
  replace hA:=hA.below hW
  have hy:=hl.size
  generalize (w2.alloc (.cells #[.int .i64 p.size,.int .i64 p.next,.slice ea en ec,.slice va vn vc,.slice ra rn rc,.slice la ln lc] 35)).alloc (.cells #[.int .i64 o.k,.string o.vol,.string o.file,.string o.to,.string o.into,.int .i64 o.at',.int .i64 o.fr,.int .i64 o.ln,.string o.data] 39)=w3 at *
  have hr:=hE.below hC
  have hu:11<=w3.heap.size:=by have:=hC.size;omega
  clear hW hl
  refine (nV_ S ep (w1.heap.size+1) (by omega) _ p o w3 hA hd hp hr hu).mono ?_
  rintro e w4 ⟨⟨v1,c,rfl,hc,PX,hj⟩,hk⟩
  have hN:=(PX.t.mono (show 1<=w3.heap.size by omega)).at'
  obtain⟨R,hR⟩:∃ R,Hid (Br p o=R):=⟨_,rfl⟩
  rw[hR.out] at hc hN hj
  obtain⟨q,hq⟩:∃ q,Hid (R.2=q):=⟨_,rfl⟩
  rw[hq.out] at hN hj
  clear PX
  obtain⟨ea1,en1,ec1,va1,vn1,vc1,ra1,rn1,rc1,la1,ln1,lc1,rfl⟩:=hN.cells
  replace P:=P.below hk
  replace Q:=Q.below hk
  replace hA:=hA.below hk
  replace hC:=Aa hC hk
  clear hk hr hu
  have p0:=fun ob=>Ah (w:=w4) ob (BH P).1
  have p1:=fun ob=>Ah (w:=w4) ob (BH P).2.1
  have p2:=fun ob=>Ah (w:=w4) ob (BH P).2.2.1
  have p3:=fun ob=>Ah (w:=w4) ob (BH P).2.2.2.1
  have p4:=fun ob=>Ah (w:=w4) ob (BH P).2.2.2.2.1
  have p5:=fun ob=>Ah (w:=w4) ob (BH P).2.2.2.2.2
  obtain⟨q0,q1,q2,q3,q4,q5,q6,q7,q8⟩:=ce9 (Q.alloc (.cells #[.int .i64 q.size,.int .i64 q.next,.slice ea1 en1 ec1,.slice va1 vn1 vc1,.slice ra1 rn1 rc1,.slice la1 ln1 lc1] 35))
  go_wp2_with fail
  have hW:Below w4.heap.size w4 (w4.alloc (.cells #[.int .i64 q.size,.int .i64 q.next,.slice ea1 en1 ec1,.slice va1 vn1 vc1,.slice ra1 rn1 rc1,.slice la1 ln1 lc1] 35)):=(Yg _ _).alloc (Zd _) _
  have E:=Blk.new w4 #[.int .i64 q.size,.int .i64 q.next,.slice ea1 en1 ec1,.slice va1 vn1 vc1,.slice ra1 rn1 rc1,.slice la1 ln1 lc1] 35
  clear p0 p1 p2 p3 p4 p5 q0 q1 q2 q3 q4 q5 q6 q7 q8
  replace P:=P.below hW
  replace Q:=Q.below hW
  replace hA:=hA.below hW
  replace hN:=hN.below hW
  replace hC:=Aa hC hW
  obtain⟨nb,hv⟩:∃ nb,nb=w4.heap.size:=⟨_,rfl⟩
  generalize w4.alloc (.cells #[.int .i64 q.size,.int .i64 q.next,.slice ea1 en1 ec1,.slice va1 vn1 vc1,.slice ra1 rn1 rc1,.slice la1 ln1 lc1] 35)=w5 at *
  rw[<-hv] at E ⊢
  clear hW hv
  refine (nK_ (w1.heap.size+1) (by omega) _ p o w5 hA hd hp).mono ?_
  rintro e w6 ⟨⟨v2,c2,rfl,hs,PX,_⟩,hh⟩
  rw[hR.out] at hs PX
  rw[hq.out] at PX
  have hM:=(PX.mono (show 1<=w5.heap.size by have:=hC.size;omega)).at'
  obtain⟨ea2,en2,ec2,va2,vn2,vc2,ra2,rn2,rc2,la2,ln2,lc2,rows2,rfl,ha⟩:=PX
  clear ha
  subst hc
  subst hs
  replace P:=P.below hh
  replace Q:=Q.below hh
  replace E:=E.below hh
  replace hA:=hA.below hh
  replace hN:=hN.below hh
  replace hC:=Aa hC hh
  clear hh
  have hW:Below w6.heap.size w6 (w6.alloc (.cells #[.int .i64 q.size,.int .i64 q.next,.slice ea2 en2 ec2,.slice va2 vn2 vc2,.slice ra2 rn2 rc2,.slice la2 ln2 lc2] 35)):=(Yg _ _).alloc (Zd _) _
  have V:=Blk.new w6 #[.int .i64 q.size,.int .i64 q.next,.slice ea2 en2 ec2,.slice va2 vn2 vc2,.slice ra2 rn2 rc2,.slice la2 ln2 lc2] 35
  replace P:=P.below hW
  replace Q:=Q.below hW
  replace E:=E.below hW
  replace hA:=hA.below hW
  replace hN:=hN.below hW
  replace hM:=hM.below hW
  replace hC:=Aa hC hW
  obtain⟨c,hc⟩:∃ c,Hid (R.1=c):=⟨_,rfl⟩
  rw[hc.out]
  obtain⟨n0,n1,n2,n3,n4,n5⟩:=BH E
  obtain⟨v0,v1,v2,v3,v4,v5⟩:=BH V
  go_wp2_with fail
  generalize w6.alloc (.cells #[.int .i64 q.size,.int .i64 q.next,.slice ea2 en2 ec2,.slice va2 vn2 vc2,.slice ra2 rn2 rc2,.slice la2 ln2 lc2] 35)=w7 at *
  clear hW
  refine (laws_samePool 1 1 Nat.one_pos Nat.one_pos _ _ q w7 hN hM hj).mono ?_
  rintro e w8 ⟨rfl,he⟩
  replace P:=P.below he
  replace Q:=Q.below he
  replace E:=E.below he
  replace V:=V.below he
  replace hA:=hA.below he
  replace hN:=hN.below he
  replace hM:=hM.below he
  replace hC:=Aa hC he
  clear he n0 n1 n2 n3 n4 n5 v0 v1 v2 v3 v4 v5
  obtain⟨n0,n1,n2,n3,n4,n5⟩:=BH E
  by_cases hc1:c=1
  ·have ho:(c==1)=true:=by simp[hc1]
   obtain⟨v0,v1,v2,v3,v4,v5⟩:=BH V
   go_wp2_with fail
   refine (laws_samePool 1 1 Nat.one_pos Nat.one_pos _ _ q w8 hN hM hj).mono ?_
   rintro e w9 ⟨rfl,hf⟩
   go_wp2
   go_returns
   exact⟨rfl,Aa hC hf⟩
  ·have ho:(c==1)=false:=ZV.2 hc1
   obtain⟨p0,p1,p2,p3,p4,p5⟩:=BH P
   by_cases hc0:c=0
   ·subst hc0
    obtain⟨d1,d2,d3⟩:=done_did hR.out hc.out hq.out
    obtain⟨q0,q1,q2,q3,q4,q5,q6,q7,q8⟩:=ce9 Q
    replace d1:Hid (Ai q=true):=d1
    replace d2:Hid (opB o=true):=d2
    go_wp2_with fail
    refine (ch_ 1 _ q w8 hN hj).mono ?_
    rintro e w9 ⟨rfl,hf⟩
    rw[d1.out]
    replace P:=P.below hf
    replace Q:=Q.below hf
    replace E:=E.below hf
    replace hC:=Aa hC hf
    clear hf n0 n1 n2 n3 n4 n5 p0 p1 p2 p3 p4 p5 q0 q1 q2 q3 q4 q5 q6 q7 q8
    obtain⟨q0,q1,q2,q3,q4,q5,q6,q7,q8⟩:=ce9 Q
    go_wp2_with fail
    refine (iO_ o w9 hp).mono ?_
    rintro e hz ⟨rfl,hg⟩
    rw[d2.out]
    have n1:=(BH (E.below hg)).2.1
    have p1:=(BH (P.below hg)).2.1
    have d3':decide (q.next≥p.next)=true:=decide_eq_true d3
    go_wp2
    go_returns
    exact⟨rfl,Aa hC hg⟩
   ·have hw:(c==0)=false:=ZV.2 hc0
    have hx:=done_kept hR.out (by rw[hc.out];exact hc0) (by rw[hc.out];exact hc1) hq.out
    clear hR hc hq hM
    subst hx
    go_wp2_with fail
    refine (laws_samePool 1 (w1.heap.size+1) Nat.one_pos (Nat.succ_pos _) _ _ _ w8 hN hA hj).mono ?_
    rintro e w9 ⟨rfl,hf⟩
    go_wp2
    go_returns
    exact⟨rfl,Aa hC hf⟩
 ·have hb:decide (1048576<n)=true:=by simp;omega
  go_enter func13,ntmps13
  go_wp2_with fail
  refine (CT a n cap _ hm).mono ?_
  rintro e w1 ⟨rfl,rfl⟩
  rw[hb]
  go_wp2
  go_returns
  exact⟨rfl,Yg _ _⟩
end Go.Proofs.YtahenegmbmnmjaaGreatDoor
