/- At every code: what is flushed changes nothing of what is read, and there are just the extents that somebody names: the walk. -/
import Derived.Test.YtdmeabghpchckaaGreatDoorLs
set_option maxHeartbeats 20000000
set_option maxRecDepth 100000
namespace Go.Proofs.YtdmeabghpchckaaGreatDoor
open Go Go.RowKit Go.BigFrame _root_.Go.Proofs.Tryz
theorem laws_bigC (a:Option Addr)(n cap:Nat)(w:World)(hn:n<=9223372036854775807) :
  Calls prog 5 #[.slice a n cap] w fun e w'=>e=.returned (.bool (decide (1048576<n)))∧w'=w:=by
 go_enter func5,ntmps5
 go_wp2
 go_returns
 go_light
 refine ⟨ac_ ?_,rfl⟩
 rw[YH]
 simp
 omega
theorem room_atF {B:Nat}{w:World}{p:Po}{ea va ra la:Option Addr}{en ec vn vc rn rc ln lc:Nat}(h:AF B w (.agg #[.int .i64 p.size,.int .i64 p.next,.slice ea en ec,.slice va vn vc,.slice ra rn rc,.slice la ln lc]) p)(hd:AB p):∀ u,Below w.heap.size w u->Calls prog 14 #[.int .i64 p.size,.slice ea en ec] u fun e w'=>e=.returned (.int .i64 (roomV p.size p.ex))∧Below u.heap.size u w':=by
 obtain⟨_,_,_,_,_,_,_,_,_,_,_,_,hv,⟨h1,_⟩,_⟩:=h
 simp only[Value.agg.injEq,Array.mk.injEq,List.cons.injEq,Value.slice.injEq,and_true,true_and] at hv
 obtain⟨⟨rfl,rfl,rfl⟩,_,_,_⟩:=hv
 intro u hu
 exact impl_RoomOf p.size ea en ec p.ex u (h1.below hu) hd.2.1 (by rw[<-h1.len];exact hd.1) fun ad h0 hb=>by
  obtain⟨b,o,q,ha,_,hc,_⟩:=be_ (h1.below hu) h0
  rw[hb] at ha
  cases ha
  exact Yk _ _ hc
theorem AF.parts {B:Nat}{w:World}{p:Po}{ea va ra la:Option Addr}{en ec vn vc rn rc ln lc:Nat}(h:AF B w (.agg #[.int .i64 p.size,.int .i64 p.next,.slice ea en ec,.slice va vn vc,.slice ra rn rc,.slice la ln lc]) p):Bb w ea en p.ex∧A4 w ra rn p.rf∧A4 w la ln p.lt:=by
 obtain⟨_,_,_,_,_,_,_,_,_,_,_,_,hv,⟨h1,_⟩,_,⟨h3,_⟩,h4,_⟩:=h
 simp only[Value.agg.injEq,Array.mk.injEq,List.cons.injEq,Value.slice.injEq,and_true,true_and] at hv
 obtain⟨⟨rfl,rfl,rfl⟩,_,⟨rfl,rfl,rfl⟩,⟨rfl,rfl,rfl⟩⟩:=hv
 exact⟨h1,h3,h4⟩
theorem str_flushF:BA ⟨9,⟨#[]⟩,⟨#[]⟩,⟨#[]⟩,⟨#[]⟩,0,0,0,⟨#[]⟩⟩:=⟨Zg _,Zg _,Zg _,Zg _,Zg _⟩
theorem walkFl (S:Addr->Prop)(ep:Addr)(a:Option Addr)(n cap:Nat)(w:World)(h:Ch w a n)(hm:n<=9223372036854775807)(hE:F8 S ep w)(hgl:11<=w.heap.size) :
  Calls prog 3 #[.slice a n cap] w fun e w'=>e=.returned (.bool true)∧Below w.heap.size w w':=by
 by_cases hn:n<=1048576
 ·have hb:decide (1048576<n)=false:=by simp;omega
  go_enter func3,ntmps3
  go_wp2_with fail
  refine (laws_bigC a n cap _ hm).mono ?_
  rintro e w1 ⟨rfl,rfl⟩
  rw[hb]
  go_wp2_with fail
  refine (spec_DrawPoolOk a n cap _ h hn).mono ?_
  rintro e w2 ⟨⟨v,p,rfl,PT,qa⟩,hQ⟩
  have hd:=qa.1
  have hA:=PT.at'
  obtain⟨ea,en,ec,va,vn,vc,ra,rn,rc,la,ln,lc,rows,rfl,hD⟩:=PT
  clear hD qa hb
  go_wp2_with fail
  have hW:Below w2.heap.size w2 (w2.alloc (.cells #[.int .i64 p.size,.int .i64 p.next,.slice ea en ec,.slice va vn vc,.slice ra rn rc,.slice la ln lc] 28)):=by go_grown
  have P:=Blk.new w2 #[.int .i64 p.size,.int .i64 p.next,.slice ea en ec,.slice va vn vc,.slice ra rn rc,.slice la ln lc] 28
  have hC:=Aa hQ hW
  replace hA:=hA.below hW
  have qr:=hQ.size
  generalize w2.alloc (.cells #[.int .i64 p.size,.int .i64 p.next,.slice ea en ec,.slice va vn vc,.slice ra rn rc,.slice la ln lc] 28)=w3 at *
  clear hW hQ
  refine (nV_ S ep (w1.heap.size+1) (by omega) _ p ⟨9,⟨#[]⟩,⟨#[]⟩,⟨#[]⟩,⟨#[]⟩,0,0,0,⟨#[]⟩⟩ w3 hA hd str_flushF (hE.below hC) (Zl hgl hC.size)).mono ?_
  rintro e w4 ⟨⟨v1,c,rfl,hc,PX,hl⟩,hL⟩
  have hN:=(PX.t.mono (show 1<=w3.heap.size by have:=hC.size;omega)).at'
  obtain⟨⟨c',q⟩,hR⟩:∃ R,Hid (Bz p ⟨9,⟨#[]⟩,⟨#[]⟩,⟨#[]⟩,⟨#[]⟩,0,0,0,⟨#[]⟩⟩=R):=⟨_,rfl⟩
  rw[hR.out] at hc hN hl
  dsimp only at hc hN hl
  clear PX
  subst hc
  obtain⟨ea1,en1,ec1,va1,vn1,vc1,ra1,rn1,rc1,la1,ln1,lc1,rfl⟩:=hN.cells
  replace P:=P.below hL
  replace hA:=hA.below hL
  replace hC:=Aa hC hL
  clear hL
  have p0:=fun ob=>Am (w:=w4) ob (En P).1
  have p1:=fun ob=>Am (w:=w4) ob (En P).2.1
  have p2:=fun ob=>Am (w:=w4) ob (En P).2.2.1
  have p3:=fun ob=>Am (w:=w4) ob (En P).2.2.2.1
  have p4:=fun ob=>Am (w:=w4) ob (En P).2.2.2.2.1
  have p5:=fun ob=>Am (w:=w4) ob (En P).2.2.2.2.2
  go_wp2_with fail
  clear p0 p1 p2 p3 p4 p5
  have hW:Below w4.heap.size w4 (w4.alloc (.cells #[.int .i64 q.size,.int .i64 q.next,.slice ea1 en1 ec1,.slice va1 vn1 vc1,.slice ra1 rn1 rc1,.slice la1 ln1 lc1] 28)):=(Yg _ _).alloc (Zd _) _
  have E:=Blk.new w4 #[.int .i64 q.size,.int .i64 q.next,.slice ea1 en1 ec1,.slice va1 vn1 vc1,.slice ra1 rn1 rc1,.slice la1 ln1 lc1] 28
  replace P:=P.below hW
  replace hA:=hA.below hW
  replace hN:=hN.below hW
  replace hC:=Aa hC hW
  generalize w4.alloc (.cells #[.int .i64 q.size,.int .i64 q.next,.slice ea1 en1 ec1,.slice va1 vn1 vc1,.slice ra1 rn1 rc1,.slice la1 ln1 lc1] 28)=w5 at *
  clear hW
  refine (nK_ (w1.heap.size+1) (by omega) _ p ⟨9,⟨#[]⟩,⟨#[]⟩,⟨#[]⟩,⟨#[]⟩,0,0,0,⟨#[]⟩⟩ w5 hA hd str_flushF).mono ?_
  rintro e w6 ⟨⟨v2,c2,rfl,hU,PX,hY⟩,hy⟩
  rw[hR.out] at hU PX hY
  dsimp only at hU PX hY
  subst hU
  have hT:=(PX.mono (show 1<=w5.heap.size by have:=hC.size;omega)).at'
  clear PX hY
  obtain⟨ea2,en2,ec2,va2,vn2,vc2,ra2,rn2,rc2,la2,ln2,lc2,rfl⟩:=hT.cells
  replace P:=P.below hy
  replace E:=E.below hy
  replace hA:=hA.below hy
  replace hN:=hN.below hy
  replace hC:=Aa hC hy
  clear hy
  have e0:=fun ob=>Am (w:=w6) ob (En E).1
  have e1:=fun ob=>Am (w:=w6) ob (En E).2.1
  have e2:=fun ob=>Am (w:=w6) ob (En E).2.2.1
  have e3:=fun ob=>Am (w:=w6) ob (En E).2.2.2.1
  have e4:=fun ob=>Am (w:=w6) ob (En E).2.2.2.2.1
  have e5:=fun ob=>Am (w:=w6) ob (En E).2.2.2.2.2
  go_wp2_with fail
  clear e0 e1 e2 e3 e4 e5
  have hW:Below w6.heap.size w6 (w6.alloc (.cells #[.int .i64 q.size,.int .i64 q.next,.slice ea2 en2 ec2,.slice va2 vn2 vc2,.slice ra2 rn2 rc2,.slice la2 ln2 lc2] 28)):=(Yg _ _).alloc (Zd _) _
  have F:=Blk.new w6 #[.int .i64 q.size,.int .i64 q.next,.slice ea2 en2 ec2,.slice va2 vn2 vc2,.slice ra2 rn2 rc2,.slice la2 ln2 lc2] 28
  replace P:=P.below hW
  replace E:=E.below hW
  replace hA:=hA.below hW
  replace hN:=hN.below hW
  replace hT:=hT.below hW
  replace hC:=Aa hC hW
  generalize w6.alloc (.cells #[.int .i64 q.size,.int .i64 q.next,.slice ea2 en2 ec2,.slice va2 vn2 vc2,.slice ra2 rn2 rc2,.slice la2 ln2 lc2] 28)=w7 at *
  clear hW
  refine (laws_samePool 1 1 Nat.one_pos Nat.one_pos _ _ q w7 hN hT hl).mono ?_
  rintro e w8 ⟨rfl,ho⟩
  replace P:=P.below ho
  replace E:=E.below ho
  replace F:=F.below ho
  replace hA:=hA.below ho
  replace hN:=hN.below ho
  replace hT:=hT.below ho
  replace hC:=Aa hC ho
  clear ho
  cases hF:Ai p
  ·have h6:=flush_wrong (o:=⟨9,⟨#[]⟩,⟨#[]⟩,⟨#[]⟩,⟨#[]⟩,0,0,0,⟨#[]⟩⟩) hF
   rw[hR.out] at h6
   obtain rfl:c2=1:=h6
   obtain⟨e0,e1,e2,e3,e4,e5⟩:=En E
   obtain⟨f0,f1,f2,f3,f4,f5⟩:=En F
   go_wp2_with fail
   clear e0 e1 e2 e3 e4 e5 f0 f1 f2 f3 f4 f5
   refine (laws_samePool 1 1 Nat.one_pos Nat.one_pos _ _ q w8 hN hT hl).mono ?_
   rintro e qv ⟨rfl,hg⟩
   replace P:=P.below hg
   replace E:=E.below hg
   replace F:=F.below hg
   replace hA:=hA.below hg
   replace hN:=hN.below hg
   replace hT:=hT.below hg
   replace hC:=Aa hC hg
   clear hg
   go_wp2
   go_returns
   exact⟨rfl,hC⟩
  ·have hp:Hid (Ai p=true):=hF
   have hM:=flush_doneF hF
   rw[hR.out] at hM
   obtain rfl:c2=0:=congrArg Prod.fst hM
   have hq:Hid (flushS p=q):=(congrArg Prod.snd hM).symm
   have hG:Hid (∀ (k:Nat) (x:Vo),p.vs[k]?=some x->CV q x.nm=CV p x.nm):=fun k x hx=>by rw[<-hq.out];exact flush_seen hF hx
   clear hM hF hR
   have hV:=hA.vsOf
   have h1:Hid (p.vs.length=vn):=hV.len
   have qs:vn<=6:=by rw[<-h1.out];exact (bL_ hp.out).1
   obtain⟨p0,p1,p2,p3,p4,p5⟩:=En P
   obtain⟨e0,e1,e2,e3,e4,e5⟩:=En E
   go_wp2_with fail
   clear p0 p1 p2 p3 p4 p5 e0 e1 e2 e3 e4 e5
   go_loopw [8] (fun ix wr=>∃ k:Nat,k<=vn∧ix=.int .i64 k∧Below w8.heap.size w8 wr) (fun ix _=>vn-(intOf ix).toNat)
   case atStart=>exact⟨0,Zg _,rfl,Yg _ _⟩
   case round=>
    obtain⟨k,hk,rfl,hB⟩:=hrel
    obtain⟨z0,z1,z2,z3,z4,z5⟩:=En (P.below hB)
    have g0:=Ae z0
    have g1:=Ae z1
    have g2:=Ae z2
    have g3:=Ae z3
    have g4:=Ae z4
    have g5:=Ae z5
    by_cases hlt:k<vn
    ·obtain⟨vb,vo,x,pa,pn,pc,rfl,hx,d0,d1,d2,d3,hI⟩:=b5_ (hV.below hB) hlt
     clear hI
     have qc:(k:Int)<vn:=by omega
     have qb:(0:Int)<=k:=by omega
     have h4:=HT hp.out hx
     have hh:=hG.out k x hx
     obtain⟨xn,qn⟩:∃ xn,Hid (x.nm=xn):=⟨_,rfl⟩
     rw[qn.out] at d1 h4 hh
     obtain⟨T,h5⟩:∃ T,Hid (CV p xn=T):=⟨_,rfl⟩
     rw[h5.out] at hh
     replace hh:Hid _:=hh
     have kN:∀ u,Below wr.heap.size wr u->Calls prog 10 #[.agg #[.int .i64 q.size,.int .i64 q.next,.slice ea1 en1 ec1,.slice va1 vn1 vc1,.slice ra1 rn1 rc1,.slice la1 ln1 lc1],.string xn] u fun e w'=>e=.returned (.string T)∧Below u.heap.size u w':=fun u hu=>by
      have:=HR 1 Nat.one_pos _ q xn u ((hN.below hB).below hu) hl h4
      rw[hh.out] at this;exact this
     have kP:∀ u,Below wr.heap.size wr u->Calls prog 10 #[.agg #[.int .i64 p.size,.int .i64 p.next,.slice ea en ec,.slice (some ⟨vb,vo,none⟩) vn vc,.slice ra rn rc,.slice la ln lc],.string xn] u fun e w'=>e=.returned (.string T)∧Below u.heap.size u w':=fun u hu=>by
      have:=HR (w1.heap.size+1) (Nat.succ_pos _) _ p xn u ((hA.below hB).below hu) hd h4
      rw[h5.out] at this;exact this
     obtain⟨n0,n1,n2,n3,n4,n5⟩:=En (E.below hB)
     have m0:=Ae n0
     have m1:=Ae n1
     have m2:=Ae n2
     have m3:=Ae n3
     have m4:=Ae n4
     have m5:=Ae n5
     have i1:=Ae d1
     have qd:=aA_ wr
     have qo:(T.toList != T.toList)=false:=by simp
     have qp:(T.toList==T.toList)=true:=by simp
     go_wp2_with fail
     refine ab_ (by kernel_rfl) (by kernel_rfl) ?_
     iterate 8 (go_big_quiet_step (first | (go_at_call 10;exact an_ (kN _ (Grw.h _)))))
     repeat (go_big_quiet_step (first | (go_at_call 10;exact an_ (kP _ (Grw.h _)))))
     refine wpQuiet_nil ?_
     intro w9 qg
     have qj:=Aa hB (ah_ qg)
     clear qg g0 g1 g2 g3 g4 g5 m0 m1 m2 m3 m4 m5 i1 qd kN kP z0 z1 z2 z3 z4 z5 n0 n1 n2 n3 n4 n5
     go_wp2
     go_roundw
     case rel=>exact⟨k+1,by omega,by go_num,qj⟩
     case measure=>simp[intOf];omega
    ·obtain rfl:vn=k:=by omega
     clear g0 g1 g2 g3 g4 g5
     obtain⟨w9,rfl⟩:∃ y,y=wr:=⟨_,rfl⟩
     replace P:=P.below hB
     replace E:=E.below hB
     replace F:=F.below hB
     replace hA:=hA.below hB
     replace hN:=hN.below hB
     replace hT:=hT.below hB
     replace hC:=Aa hC hB
     clear hB hV
     obtain⟨p0,p1,p2,p3,p4,p5⟩:=En P
     go_wp2_with fail
     clear p0 p1 p2 p3 p4 p5
     refine (kY_ (w1.heap.size+1) _ p w9 hA hd).mono ?_
     rintro e hO ⟨⟨wa,wn,wc,rfl,qt,RW⟩,ha⟩
     rw[walked_is hp.out] at RW
     replace P:=P.below ha
     replace E:=E.below ha
     replace F:=F.below ha
     replace hA:=hA.below ha
     replace hN:=hN.below ha
     replace hT:=hT.below ha
     replace hC:=Aa hC ha
     clear ha
     have hS:=hN.parts.1
     have qq:en1<=60:=by
      have h9:=hS.len
      have h8:=(bL_ (le_ hp.out)).2.2.2.1
      rw[hq.out] at h8
      simp only[Ao,Zf,ZU] at h8
      omega
     obtain⟨e0,e1,e2,e3,e4,e5⟩:=En E
     go_wp2_with fail
     clear e0 e1 e2 e3 e4 e5
     go_loopw [10] (fun ix wr=>∃ k:Nat,k<=en1∧ix=.int .i64 k∧Below hO.heap.size hO wr) (fun ix _=>en1-(intOf ix).toNat)
     case atStart=>exact⟨0,Zg _,rfl,Yg _ _⟩
     case round=>
      obtain⟨k,hk,rfl,hB⟩:=hrel
      obtain⟨n0,n1,n2,n3,n4,n5⟩:=En (E.below hB)
      by_cases hlt:k<en1
      ·obtain⟨b,of,x,rfl,hx,c0,_⟩:=be_ (hS.below hB) hlt
       have ht:Hid (∃ c∈AA p.vs,c.o.a=x.a):=flush_ex hp.out (by rw[hq.out];exact Zc hx)
       obtain⟨ad,hv⟩:∃ ad,Hid (x.a=ad):=⟨_,rfl⟩
       rw[hv.out] at c0 ht
       have hw:=owners_some hp.out ht.out
       rw[hq.out] at hw
       have qc:(k:Int)<en1:=by omega
       have qb:(0:Int)<=k:=by omega
       have hs:∀ u,Below wr.heap.size wr u->(fun u=>u.cell? ⟨w4.heap.size,0,none⟩=some (.int .i64 q.size)∧u.cell? ⟨w4.heap.size,1,none⟩=some (.int .i64 q.next)∧u.cell? ⟨w4.heap.size,2,none⟩=some (.slice (some ⟨b,of,none⟩) en1 ec1)∧u.cell? ⟨w4.heap.size,3,none⟩=some (.slice va1 vn1 vc1)∧u.cell? ⟨w4.heap.size,4,none⟩=some (.slice ra1 rn1 rc1)∧u.cell? ⟨w4.heap.size,5,none⟩=some (.slice la1 ln1 lc1)∧u.cell? ⟨b,of+k*2,none⟩=some (.int .i64 ad)) u:=fun u hu=>by
        obtain⟨y0,y1,y2,y3,y4,y5⟩:=En ((E.below hB).below hu)
        exact⟨y0,y1,y2,y3,y4,y5,Ab hu c0⟩
       have hz:=hs _ ((Yg _ _).drew)
       dsimp only at hz
       go_wp2_with fail
       refine aC_ (S:=(fun u=>u.cell? ⟨w4.heap.size,0,none⟩=some (.int .i64 q.size)∧u.cell? ⟨w4.heap.size,1,none⟩=some (.int .i64 q.next)∧u.cell? ⟨w4.heap.size,2,none⟩=some (.slice (some ⟨b,of,none⟩) en1 ec1)∧u.cell? ⟨w4.heap.size,3,none⟩=some (.slice va1 vn1 vc1)∧u.cell? ⟨w4.heap.size,4,none⟩=some (.slice ra1 rn1 rc1)∧u.cell? ⟨w4.heap.size,5,none⟩=some (.slice la1 ln1 lc1)∧u.cell? ⟨b,of+k*2,none⟩=some (.int .i64 ad))) 10 (by kernel_rfl) rfl ?_
       refine tk 0 ?_
       refine tk 1 ?_
       refine tk 2 ?_
       refine tk 3 ?_
       refine tk 4 ?_
       refine tk 5 ?_
       refine tk 6 ?_
       refine AW (i:=7) (by kernel_rfl) rfl (fun K hK=>?_)
       go_simp
       refine (impl_OwnersOf 1 _ q ad _ ((hN.below hB).below ((Yg _ _).drew)) hl).mono ?_
       rintro e hO ⟨⟨oa,on,oc,rfl,qm,RO⟩,hf⟩
       have ha:=Aa ((Yg wr.heap.size wr).drew) hf
       have hj:¬ (on:Int)=0:=by
        have h9:=RO.sl.len
        intro h8
        exact hw (by rw[h9];omega)
       have h2:((on:Int)==0)=false:=ZV.2 hj
       have h3:decide ((on:Int)=0)=false:=YV hj
       dsimp only
       refine hK.out _ _ (hs _ ha) (fun hHeld=>?_)
       clear hK K
       try simp only[Act.put,Yj,Yq,Yr]
       refine tk 8 ?_
       refine tk 9 ?_
       refine wpAnyH_done (by kernel_rfl) ?_ _
       have hr:=Aa hB ha
       clear n0 n1 n2 n3 n4 n5 RO hs hz hHeld hf hw ht
       go_wp2
       go_roundw
       case rel=>exact⟨k+1,by omega,by go_num,hr⟩
       case measure=>simp[intOf];omega
      ·obtain rfl:en1=k:=by omega
       obtain⟨qh,rfl⟩:∃ y,y=wr:=⟨_,rfl⟩
       clear n0 n1 n2 n3 n4 n5 hS
       replace P:=P.below hB
       replace E:=E.below hB
       replace F:=F.below hB
       replace hA:=hA.below hB
       replace hN:=hN.below hB
       replace hT:=hT.below hB
       replace RW:=RW.below hB
       replace hC:=Aa hC hB
       clear hB
       obtain⟨e0,e1,e2,e3,e4,e5⟩:=En E
       go_wp2_with fail
       clear e0 e1 e2 e3 e4 e5
       go_loopw [11] (fun ix wr=>∃ k:Nat,k<=wn∧ix=.int .i64 k∧Below qh.heap.size qh wr) (fun ix _=>wn-(intOf ix).toNat)
       case atStart=>exact⟨0,Zg _,rfl,Yg _ _⟩
       case round=>
        obtain⟨k,hk,rfl,hB⟩:=hrel
        obtain⟨n0,n1,n2,n3,n4,n5⟩:=En (E.below hB)
        by_cases hlt:k<wn
        ·obtain⟨b,of,x,rfl,hx,c0,_,_,_⟩:=aN_ (RW.sl.below hB) hlt
         have ht:Hid (∃ c∈AA p.vs,c.o.a=x.o.a):=⟨x,Zc hx,rfl⟩
         obtain⟨ad,hv⟩:∃ ad,Hid (x.o.a=ad):=⟨_,rfl⟩
         rw[hv.out] at c0 ht
         have hw:=owners_some hp.out ht.out
         rw[hq.out] at hw
         have qc:(k:Int)<wn:=by omega
         have qb:(0:Int)<=k:=by omega
         have hs:∀ u,Below wr.heap.size wr u->(fun u=>u.cell? ⟨w4.heap.size,0,none⟩=some (.int .i64 q.size)∧u.cell? ⟨w4.heap.size,1,none⟩=some (.int .i64 q.next)∧u.cell? ⟨w4.heap.size,2,none⟩=some (.slice ea1 en1 ec1)∧u.cell? ⟨w4.heap.size,3,none⟩=some (.slice va1 vn1 vc1)∧u.cell? ⟨w4.heap.size,4,none⟩=some (.slice ra1 rn1 rc1)∧u.cell? ⟨w4.heap.size,5,none⟩=some (.slice la1 ln1 lc1)∧u.cell? ⟨b,of+k*4,none⟩=some (.int .i64 ad)) u:=fun u hu=>by
          obtain⟨y0,y1,y2,y3,y4,y5⟩:=En ((E.below hB).below hu)
          exact⟨y0,y1,y2,y3,y4,y5,Ab hu c0⟩
         have hz:=hs _ ((Yg _ _).drew)
         dsimp only at hz
         go_wp2_with fail
         refine aC_ (S:=(fun u=>u.cell? ⟨w4.heap.size,0,none⟩=some (.int .i64 q.size)∧u.cell? ⟨w4.heap.size,1,none⟩=some (.int .i64 q.next)∧u.cell? ⟨w4.heap.size,2,none⟩=some (.slice ea1 en1 ec1)∧u.cell? ⟨w4.heap.size,3,none⟩=some (.slice va1 vn1 vc1)∧u.cell? ⟨w4.heap.size,4,none⟩=some (.slice ra1 rn1 rc1)∧u.cell? ⟨w4.heap.size,5,none⟩=some (.slice la1 ln1 lc1)∧u.cell? ⟨b,of+k*4,none⟩=some (.int .i64 ad))) 10 (by kernel_rfl) rfl ?_
         refine tk 0 ?_
         refine tk 1 ?_
         refine tk 2 ?_
         refine tk 3 ?_
         refine tk 4 ?_
         refine tk 5 ?_
         refine tk 6 ?_
         refine AW (i:=7) (by kernel_rfl) rfl (fun K hK=>?_)
         go_simp
         refine (impl_OwnersOf 1 _ q ad _ ((hN.below hB).below ((Yg _ _).drew)) hl).mono ?_
         rintro e hO ⟨⟨oa,on,oc,rfl,qm,RO⟩,hf⟩
         have ha:=Aa ((Yg wr.heap.size wr).drew) hf
         have hj:¬ (on:Int)=0:=by
          have h9:=RO.sl.len
          intro h8
          exact hw (by rw[h9];omega)
         have h2:((on:Int)==0)=false:=ZV.2 hj
         have h3:decide ((on:Int)=0)=false:=YV hj
         dsimp only
         refine hK.out _ _ (hs _ ha) (fun hHeld=>?_)
         clear hK K
         try simp only[Act.put,Yj,Yq,Yr]
         refine tk 8 ?_
         refine tk 9 ?_
         refine wpAnyH_done (by kernel_rfl) ?_ _
         have hr:=Aa hB ha
         clear n0 n1 n2 n3 n4 n5 RO hs hz hHeld hf hw ht
         go_wp2
         go_roundw
         case rel=>exact⟨k+1,by omega,by go_num,hr⟩
         case measure=>simp[intOf];omega
        ·obtain rfl:wn=k:=by omega
         obtain⟨qi,rfl⟩:∃ y,y=wr:=⟨_,rfl⟩
         clear n0 n1 n2 n3 n4 n5
         replace P:=P.below hB
         replace E:=E.below hB
         replace F:=F.below hB
         replace hA:=hA.below hB
         replace hN:=hN.below hB
         replace hT:=hT.below hB
         replace RW:=RW.below hB
         replace hC:=Aa hC hB
         clear hB
         obtain⟨e0,e1,e2,e3,e4,e5⟩:=En E
         go_wp2_with fail
         clear e0 e1 e2 e3 e4 e5
         refine (nV_ S ep 1 Nat.one_pos _ q ⟨9,⟨#[]⟩,⟨#[]⟩,⟨#[]⟩,⟨#[]⟩,0,0,0,⟨#[]⟩⟩ qi hN hl str_flushF (hE.below hC) (Zl hgl hC.size)).mono ?_
         rintro e hJ ⟨⟨vf,cf,rfl,h7,PX,hZ⟩,he⟩
         rw[<-hq.out,flush_doneF (le_ hp.out),flush_twice] at h7 PX hZ
         dsimp only at h7 PX hZ
         rw[hq.out] at PX hZ
         have hX:=(PX.t.mono (show 1<=qi.heap.size by have:=hC.size;omega)).at'
         clear PX
         obtain⟨ea5,en5,ec5,va5,vn5,vc5,ra5,rn5,rc5,la5,ln5,lc5,rfl⟩:=hX.cells
         replace P:=P.below he
         replace E:=E.below he
         replace F:=F.below he
         replace hA:=hA.below he
         replace hN:=hN.below he
         replace hT:=hT.below he
         replace RW:=RW.below he
         replace hC:=Aa hC he
         clear he
         go_wp2_with fail
         have hW:Below hJ.heap.size hJ (hJ.alloc (.cells #[.int .i64 q.size,.int .i64 q.next,.slice ea5 en5 ec5,.slice va5 vn5 vc5,.slice ra5 rn5 rc5,.slice la5 ln5 lc5] 28)):=(Yg _ _).alloc (Zd _) _
         have na:=Blk.new hJ #[.int .i64 q.size,.int .i64 q.next,.slice ea5 en5 ec5,.slice va5 vn5 vc5,.slice ra5 rn5 rc5,.slice la5 ln5 lc5] 28
         replace P:=P.below hW
         replace E:=E.below hW
         replace hA:=hA.below hW
         replace hN:=hN.below hW
         replace hX:=hX.below hW
         replace RW:=RW.below hW
         replace hC:=Aa hC hW
         generalize hJ.alloc (.cells #[.int .i64 q.size,.int .i64 q.next,.slice ea5 en5 ec5,.slice va5 vn5 vc5,.slice ra5 rn5 rc5,.slice la5 ln5 lc5] 28)=w14 at *
         clear hW F hT
         have ql:ln1=0:=by
          have h9:=hN.parts.2.2.len
          rw[<-hq.out] at h9
          exact h9.symm
         subst ql
         have h0:=flush_room hp.out
         rw[hq.out] at h0
         obtain⟨r1,qe⟩:∃ r,Hid (roomV p.size p.ex=r):=⟨_,rfl⟩
         obtain⟨r2,qf⟩:∃ r,Hid (roomV q.size q.ex=r):=⟨_,rfl⟩
         rw[qe.out,qf.out] at h0
         have qk:decide (r1<=r2)=true:=decide_eq_true h0
         have kC:∀ u,Below w14.heap.size w14 u->Calls prog 13 #[.slice ra1 rn1 rc1,.slice wa wn wc] u fun e w'=>e=.returned (.bool true)∧Below u.heap.size u w':=fun u hu=>by
          have h8:=hN.parts.2.1
          have h9:q.rf=AA p.vs:=by rw[<-hq.out];exact flush_rf hp.out
          rw[h9] at h8
          exact laws_sameCounts _ _ _ _ _ _ _ u (h8.below hu) (RW.sl.below hu) (by
           have:=h8.len;have:=RW.sl.len;omega)
         have kS:∀ u,Below w14.heap.size w14 u->Calls prog 9 #[.agg #[.int .i64 q.size,.int .i64 q.next,.slice ea5 en5 ec5,.slice va5 vn5 vc5,.slice ra5 rn5 rc5,.slice la5 ln5 lc5],.agg #[.int .i64 q.size,.int .i64 q.next,.slice ea1 en1 ec1,.slice va1 vn1 vc1,.slice ra1 rn1 rc1,.slice la1 0 lc1]] u fun e w'=>e=.returned (.bool true)∧Below u.heap.size u w':=fun u hu=>
          laws_samePool 1 1 Nat.one_pos Nat.one_pos _ _ q u (hX.below hu) (hN.below hu) hl
         have kR1:∀ u,Below w14.heap.size w14 u->Calls prog 14 #[.int .i64 q.size,.slice ea1 en1 ec1] u fun e w'=>e=.returned (.int .i64 r2)∧Below u.heap.size u w':=by
          have:=room_atF hN hl
          rw[qf.out] at this;exact this
         have kR2:∀ u,Below w14.heap.size w14 u->Calls prog 14 #[.int .i64 p.size,.slice ea en ec] u fun e w'=>e=.returned (.int .i64 r1)∧Below u.heap.size u w':=by
          have:=room_atF hA hd
          rw[qe.out] at this;exact this
         obtain⟨z0,z1,z2,z3,z4,z5⟩:=En P
         have g0:=Ae z0
         have g1:=Ae z1
         have g2:=Ae z2
         have g3:=Ae z3
         have g4:=Ae z4
         have g5:=Ae z5
         obtain⟨n0,n1,n2,n3,n4,n5⟩:=En E
         have m0:=Ae n0
         have m1:=Ae n1
         have m2:=Ae n2
         have m3:=Ae n3
         have m4:=Ae n4
         have m5:=Ae n5
         obtain⟨e0,e1,e2,e3,e4,e5⟩:=En na
         have j0:=Ae e0
         have j1:=Ae e1
         have j2:=Ae e2
         have j3:=Ae e3
         have j4:=Ae e4
         have j5:=Ae e5
         have qd:=aA_ w14
         refine ab_ (by kernel_rfl) (by kernel_rfl) ?_
         iterate 9 (go_big_quiet_step (first | (go_at_call 13;exact an_ (kC _ (Grw.h _)))))
         iterate 5 (go_big_quiet_step (first | (go_at_call 9;exact an_ (kS _ (Grw.h _)))))
         iterate 7 (go_big_quiet_step (first | (go_at_call 14;exact an_ (kR1 _ (Grw.h _)))))
         iterate 5 (go_big_quiet_step (first | (go_at_call 14;exact an_ (kR2 _ (Grw.h _)))))
         repeat (go_big_quiet_step (rfl))
         refine wpQuiet_nil ?_
         intro qu hH
         have hP:=ah_ hH
         clear hH kC kS kR1 kR2
         go_wp2
         go_returns
         exact⟨rfl,Aa hC hP⟩
 ·have hb:decide (1048576<n)=true:=by simp;omega
  go_enter func3,ntmps3
  go_wp2_with fail
  refine (laws_bigC a n cap _ hm).mono ?_
  rintro e w1 ⟨rfl,rfl⟩
  rw[hb]
  go_wp2
  go_returns
  exact⟨rfl,Yg _ _⟩
end Go.Proofs.YtdmeabghpchckaaGreatDoor
