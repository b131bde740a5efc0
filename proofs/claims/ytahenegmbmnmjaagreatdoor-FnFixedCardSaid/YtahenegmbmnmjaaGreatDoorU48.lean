/- Ground. -/
import Derived.Test.YtahenegmbmnmjaaGreatDoorU45
set_option maxHeartbeats 20000000
set_option maxRecDepth 100000
namespace Go.Proofs.YtahenegmbmnmjaaGreatDoor
open Go Go.RowKit Go.BigFrame _root_.Go.Proofs.Tryz
theorem walkFix (S:Addr->Prop)(ep:Addr)(a:Option Addr)(n cap:Nat)(w:World)(h:BX w a n)(hm:n<=9223372036854775807)(hE:EX S ep w)(hgl:11<=w.heap.size) :
  Calls prog 10 #[.slice a n cap] w fun e w'=>e=.returned (.bool true)∧Below w.heap.size w w':=by
 by_cases hn:n<=1048576
 ·have hb:decide (1048576<n)=false:=by simp;omega
  go_enter func10,ntmps10
  go_wp2_with fail
  refine (CT a n cap _ hm).mono ?_
  rintro e w1 ⟨rfl,rfl⟩
  rw[hb]
  go_wp2_with fail
  refine (Dd a n cap _ h hn).mono ?_
  rintro e w2 ⟨⟨v,p,o,rfl,PT,hG,hL⟩,hr⟩
  have hd:=hG.1
  have hA:=PT.at'
  obtain⟨ea,en,ec,va,vn,vc,ra,rn,rc,la,ln,lc,rows,rfl,he⟩:=PT
  clear he hG hb
  go_wp2_with fail
  have hW:Below w2.heap.size w2 ((w2.alloc (.cells #[.int .i64 p.size,.int .i64 p.next,.slice ea en ec,.slice va vn vc,.slice ra rn rc,.slice la ln lc] 35)).alloc (.cells #[.int .i64 o.k,.string o.vol,.string o.file,.string o.to,.string o.into,.int .i64 o.at',.int .i64 o.fr,.int .i64 o.ln,.string o.data] 39)):=by go_grown
  have P:=(Blk.new w2 #[.int .i64 p.size,.int .i64 p.next,.slice ea en ec,.slice va vn vc,.slice ra rn rc,.slice la ln lc] 35).alloc (.cells #[.int .i64 o.k,.string o.vol,.string o.file,.string o.to,.string o.into,.int .i64 o.at',.int .i64 o.fr,.int .i64 o.ln,.string o.data] 39)
  have Q:Blk ((w2.alloc (.cells #[.int .i64 p.size,.int .i64 p.next,.slice ea en ec,.slice va vn vc,.slice ra rn rc,.slice la ln lc] 35)).alloc (.cells #[.int .i64 o.k,.string o.vol,.string o.file,.string o.to,.string o.into,.int .i64 o.at',.int .i64 o.fr,.int .i64 o.ln,.string o.data] 39)) (w2.heap.size+1) #[.int .i64 o.k,.string o.vol,.string o.file,.string o.to,.string o.into,.int .i64 o.at',.int .i64 o.fr,.int .i64 o.ln,.string o.data] 39:=Blk.new' _ _ _ _ (by simp)
  have hC:=Aa hr hW
  replace hA:=hA.below hW
  have hU:=hr.size
  generalize (w2.alloc (.cells #[.int .i64 p.size,.int .i64 p.next,.slice ea en ec,.slice va vn vc,.slice ra rn rc,.slice la ln lc] 35)).alloc (.cells #[.int .i64 o.k,.string o.vol,.string o.file,.string o.to,.string o.into,.int .i64 o.at',.int .i64 o.fr,.int .i64 o.ln,.string o.data] 39)=w3 at *
  have hD:=hE.below hC
  have hH:11<=w3.heap.size:=by have:=hC.size;omega
  clear hW hr
  refine (nV_ S ep (w1.heap.size+1) (by omega) _ p o w3 hA hd hL hD hH).mono ?_
  rintro e w4 ⟨⟨v1,c,rfl,hc,PX,ht⟩,hj⟩
  have hN:=(PX.t.mono (show 1<=w3.heap.size by omega)).at'
  obtain⟨R,hR⟩:∃ R,Hid (Br p o=R):=⟨_,rfl⟩
  rw[hR.out] at hc hN ht
  obtain⟨q,hq⟩:∃ q,Hid (R.2=q):=⟨_,rfl⟩
  rw[hq.out] at hN ht
  clear PX
  obtain⟨ea1,en1,ec1,va1,vn1,vc1,ra1,rn1,rc1,la1,ln1,lc1,rfl⟩:=hN.cells
  replace P:=P.below hj
  replace Q:=Q.below hj
  replace hA:=hA.below hj
  replace hC:=Aa hC hj
  clear hj hD hH
  have p0:=fun ob=>Ah (w:=w4) ob (BH P).1
  have p1:=fun ob=>Ah (w:=w4) ob (BH P).2.1
  have p2:=fun ob=>Ah (w:=w4) ob (BH P).2.2.1
  have p3:=fun ob=>Ah (w:=w4) ob (BH P).2.2.2.1
  have p4:=fun ob=>Ah (w:=w4) ob (BH P).2.2.2.2.1
  have p5:=fun ob=>Ah (w:=w4) ob (BH P).2.2.2.2.2
  obtain⟨q0,q1,q2,q3,q4,q5,q6,q7,q8⟩:=ce9 (Q.alloc (.cells #[.int .i64 q.size,.int .i64 q.next,.slice ea1 en1 ec1,.slice va1 vn1 vc1,.slice ra1 rn1 rc1,.slice la1 ln1 lc1] 35))
  go_wp2_with fail
  have hW:Below w4.heap.size w4 (w4.alloc (.cells #[.int .i64 q.size,.int .i64 q.next,.slice ea1 en1 ec1,.slice va1 vn1 vc1,.slice ra1 rn1 rc1,.slice la1 ln1 lc1] 35)):=(Yg _ _).alloc (Zd _) _
  have E:=Blk.new w4 #[.int .i64 q.size,.int .i64 q.next,.slice ea1 en1 ec1,.slice va1 vn1 vc1,.slice ra1 rn1 rc1,.slice la1 ln1 lc1] 35
  clear p0 p1 p2 p3 p4 p5 q0 q1 q2 q3 q4 q5 q6 q7 q8
  replace P:=P.below hW
  replace Q:=Q.below hW
  replace hA:=hA.below hW
  replace hN:=hN.below hW
  replace hC:=Aa hC hW
  obtain⟨nb,hJ⟩:∃ nb,nb=w4.heap.size:=⟨_,rfl⟩
  generalize w4.alloc (.cells #[.int .i64 q.size,.int .i64 q.next,.slice ea1 en1 ec1,.slice va1 vn1 vc1,.slice ra1 rn1 rc1,.slice la1 ln1 lc1] 35)=w5 at *
  rw[<-hJ] at E ⊢
  clear hW hJ
  refine (nK_ (w1.heap.size+1) (by omega) _ p o w5 hA hd hL).mono ?_
  rintro e w6 ⟨⟨v2,c2,rfl,hF,PX,_⟩,hh⟩
  rw[hR.out] at hF PX
  rw[hq.out] at PX
  obtain⟨ea2,en2,ec2,va2,vn2,vc2,ra2,rn2,rc2,la2,ln2,lc2,rows2,rfl,he⟩:=PX
  clear he
  subst hc
  subst hF
  replace P:=P.below hh
  replace Q:=Q.below hh
  replace E:=E.below hh
  replace hA:=hA.below hh
  replace hN:=hN.below hh
  replace hC:=Aa hC hh
  clear hh
  have hW:Below w6.heap.size w6 (w6.alloc (.cells #[.int .i64 q.size,.int .i64 q.next,.slice ea2 en2 ec2,.slice va2 vn2 vc2,.slice ra2 rn2 rc2,.slice la2 ln2 lc2] 35)):=(Yg _ _).alloc (Zd _) _
  have o0:=(ce9 (Q.below hW)).1
  have o1:=(ce9 (Q.below hW)).2.1
  have o3:=(ce9 (Q.below hW)).2.2.2.1
  obtain⟨c,hc⟩:∃ c,Hid (R.1=c):=⟨_,rfl⟩
  rw[hc.out]
  have y3:=(BH (P.below hW)).2.2.2.1
  by_cases hc0:c=1
  ·have hM:(c==1)=true:=by simp[hc0]
   go_wp2
   go_returns
   exact⟨rfl,Aa hC hW⟩
  ·have hM:(c==1)=false:=ZV.2 hc0
   cases hO:(o.k==7)
   ·have hw:¬ o.k=7:=by simpa using hO
    have hp:Hid (Ai p=true):=(Ce hR.out (by rw[hc.out];exact hc0)).1
    have hl:∀ (k:Nat) (x:Vo),p.vs[k]?=some x->x.fx=true->BN q x.nm=BN p x.nm:=fun k x hx hf=>FR hR.out (by rw[hc.out];exact hc0) hq.out hx hf hw
    go_wp2_with fail
    replace P:=P.below hW
    replace Q:=Q.below hW
    replace E:=E.below hW
    replace hA:=hA.below hW
    replace hN:=hN.below hW
    replace hC:=Aa hC hW
    generalize w6.alloc (.cells #[.int .i64 q.size,.int .i64 q.next,.slice ea2 en2 ec2,.slice va2 vn2 vc2,.slice ra2 rn2 rc2,.slice la2 ln2 lc2] 35)=w7 at *
    clear hW o0 o1 o3
    have hV:=hA.vsOf
    have hy:Hid (p.vs.length=vn):=hV.len
    have hX:vn<=6:=by rw[<-hy.out];exact (bL_ hp.out).1
    go_loopw [9] (fun ix wr=>∃ k:Nat,k<=vn∧ix=.int .i64 k∧Below w7.heap.size w7 wr) (fun ix _=>vn-(intOf ix).toNat)
    case atStart=>exact⟨0,Zg _,rfl,Yg _ _⟩
    case round=>
     obtain⟨k,hk,rfl,hB⟩:=hrel
     have y3b:=Ab hB y3
     by_cases hlt:k<vn
     ·obtain⟨vb,vo,x,pa,pn,pc,rfl,hx,d0,d1,d2,d3,hI⟩:=b5_ (hV.below hB) hlt
      clear hI
      have hS:(k:Int)<vn:=by omega
      have hQ:(0:Int)<=k:=by omega
      have hz:=DJ hp.out hx
      have ha:=hl k x hx
      obtain⟨xn,hP⟩:∃ xn,Hid (x.nm=xn):=⟨_,rfl⟩
      rw[hP.out] at d1 hz ha
      obtain⟨z0,z1,z2,z3,z4,z5⟩:=BH (P.below hB)
      obtain⟨n0,n1,n2,n3,n4,n5⟩:=BH (E.below hB)
      have g0:=Ad z0
      have g1:=Ad z1
      have g2:=Ad z2
      have g3:=Ad z3
      have g4:=Ad z4
      have g5:=Ad z5
      have m0:=Ad n0
      have m1:=Ad n1
      have m2:=Ad n2
      have m3:=Ad n3
      have m4:=Ad n4
      have m5:=Ad n5
      have i1:=Ad d1
      have hK:=aA_ wr
      cases hv:x.fx
      ·rw[hv] at d2
       have i2:=Ad d2
       clear ha
       go_wp2_with fail
       refine ab_ (by kernel_rfl) (by kernel_rfl) ?_
       repeat (go_big_quiet_step (fail))
       refine wpQuiet_nil ?_
       intro w8 ho
       have hs:=Aa hB (ah_ ho)
       clear ho g0 g1 g2 g3 g4 g5 m0 m1 m2 m3 m4 m5 i1 i2 hK z0 z1 z2 z3 z4 z5 n0 n1 n2 n3 n4 n5
       go_wp2
       go_roundw
       case rel=>exact⟨k+1,by omega,by go_num,hs⟩
       case measure=>simp[intOf];omega
      ·have hg:=ha hv
       rw[hv] at d2
       have i2:=Ad d2
       obtain⟨T,hT⟩:∃ T,Hid (BN p xn=T):=⟨_,rfl⟩
       rw[hT.out] at hg
       have kN:∀ u,Below wr.heap.size wr u->Calls prog 34 #[.agg #[.int .i64 q.size,.int .i64 q.next,.slice ea1 en1 ec1,.slice va1 vn1 vc1,.slice ra1 rn1 rc1,.slice la1 ln1 lc1],.string xn] u fun e w'=>e=.returned (.string T)∧Below u.heap.size u w':=fun u hu=>by
        have:=Cb 1 Nat.one_pos _ q xn u ((hN.below hB).below hu) ht hz
        rw[hg] at this;exact this
       have kP:∀ u,Below wr.heap.size wr u->Calls prog 34 #[.agg #[.int .i64 p.size,.int .i64 p.next,.slice ea en ec,.slice (some ⟨vb,vo,none⟩) vn vc,.slice ra rn rc,.slice la ln lc],.string xn] u fun e w'=>e=.returned (.string T)∧Below u.heap.size u w':=fun u hu=>by
        have:=Cb (w1.heap.size+1) (Nat.succ_pos _) _ p xn u ((hA.below hB).below hu) hd hz
        rw[hT.out] at this;exact this
       clear ha hg
       go_wp2_with fail
       refine ab_ (by kernel_rfl) (by kernel_rfl) ?_
       iterate 15 (go_big_quiet_step (first | (go_at_call 34;exact an_ (kN _ (Grw.h _)))))
       repeat (go_big_quiet_step (first | (go_at_call 34;exact an_ (kP _ (Grw.h _)))))
       refine wpQuiet_nil ?_
       intro w8 ho
       have hs:=Aa hB (ah_ ho)
       clear ho g0 g1 g2 g3 g4 g5 m0 m1 m2 m3 m4 m5 i1 i2 hK kN kP z0 z1 z2 z3 z4 z5 n0 n1 n2 n3 n4 n5
       go_wp2
       go_roundw
       case rel=>exact⟨k+1,by omega,by go_num,hs⟩
       case measure=>simp[intOf];omega
     ·obtain rfl:k=vn:=by omega
      go_wp2
      go_returns
      exact⟨rfl,Aa hC hB⟩
   ·go_wp2
    go_returns
    exact⟨rfl,Aa hC hW⟩
 ·have hb:decide (1048576<n)=true:=by simp;omega
  go_enter func10,ntmps10
  go_wp2_with fail
  refine (CT a n cap _ hm).mono ?_
  rintro e w1 ⟨rfl,rfl⟩
  rw[hb]
  go_wp2
  go_returns
  exact⟨rfl,Yg _ _⟩
end Go.Proofs.YtahenegmbmnmjaaGreatDoor
