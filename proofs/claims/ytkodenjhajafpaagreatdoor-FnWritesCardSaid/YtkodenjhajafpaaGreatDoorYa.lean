/- At every code: what is written is read there, with all else as it was: the walk. -/
import Derived.Test.YtkodenjhajafpaaGreatDoorYp
set_option maxHeartbeats 20000000
set_option maxRecDepth 100000
namespace Go.Proofs.YtkodenjhajafpaaGreatDoor
open Go Go.RowKit Go.BigFrame _root_.Go.Proofs.Tryz
theorem vol_opW {o:Opr}(h:opB o=true)(hk:o.k=2):o.vol.size<=1048576:=by
 unfold opB at h
 rw[if_neg (by omega),if_pos hk] at h
 simp only[nameB,Zf,ZU] at h
 omega
theorem zs_snocW (x:ByteArray)(j:Nat):(x++zs j)++⟨#[0]⟩=x++zs (j+1):=by
 apply BV
 rw[B5,B5,B5,ZC]
 congr 1
 simp[zs,List.replicate_succ']
theorem oth_all {p q:Po}{o:Opr}(hp:Aj p=true)(hk:o.k=2)(h0:(opS p o).1=0)(hq:(opS p o).2=q):∀ f∈(Cp p o.vol).getD [],f.toList≠o.file.toList->∃ y:ByteArray,y.size<=100∧Cm p o.vol f=((y.size:Int),true)∧Cj p o.vol f 0 y.size=(y,true)∧Cj q o.vol f 0 y.size=(y,true):=by
 intro f hf ha
 cases hl:Cp p o.vol with
 |none=>rw[hl] at hf;cases hf
 |some l=>
  rw[hl] at hf
  have:=write_other hp hk h0 hl hf ha
  rw[hq] at this
  exact this
theorem walkWr (S:Addr->Prop)(ep:Addr)(a:Option Addr)(n cap:Nat)(w:World)(h:Co w a n)(hm:n<=9223372036854775807)(hE:Gf S ep w)(hgl:11<=w.heap.size) :
  Calls prog 3 #[.slice a n cap] w fun e w'=>e=.returned (.bool true)∧Below w.heap.size w w':=by
 by_cases hn:n<=1048576
 ·have hb:decide (1048576<n)=false:=by simp;omega
  go_enter func3,ntmps3
  go_wp2_with fail
  refine (HZ a n cap _ hm).mono ?_
  rintro e w1 ⟨rfl,rfl⟩
  rw[hb]
  go_wp2_with fail
  refine (G4 a n cap _ h hn).mono ?_
  rintro e w2 ⟨⟨v,p,o,rfl,PT,qf,qm⟩,h1⟩
  have hd:=qf.1
  have hA:=PT.at'
  obtain⟨ea,en,ec,va,vn,vc,ra,rn,rc,la,ln,lc,rows,rfl,ht⟩:=PT
  clear ht qf hb
  go_wp2_with fail
  have hW:Below w2.heap.size w2 ((w2.alloc (.cells #[.int .i64 p.size,.int .i64 p.next,.slice ea en ec,.slice va vn vc,.slice ra rn rc,.slice la ln lc] 28)).alloc (.cells #[.int .i64 o.k,.string o.vol,.string o.file,.string o.to,.string o.into,.int .i64 o.at',.int .i64 o.fr,.int .i64 o.ln,.string o.data] 30)):=by go_grown
  have P:=(Blk.new w2 #[.int .i64 p.size,.int .i64 p.next,.slice ea en ec,.slice va vn vc,.slice ra rn rc,.slice la ln lc] 28).alloc (.cells #[.int .i64 o.k,.string o.vol,.string o.file,.string o.to,.string o.into,.int .i64 o.at',.int .i64 o.fr,.int .i64 o.ln,.string o.data] 30)
  have Q:Blk ((w2.alloc (.cells #[.int .i64 p.size,.int .i64 p.next,.slice ea en ec,.slice va vn vc,.slice ra rn rc,.slice la ln lc] 28)).alloc (.cells #[.int .i64 o.k,.string o.vol,.string o.file,.string o.to,.string o.into,.int .i64 o.at',.int .i64 o.fr,.int .i64 o.ln,.string o.data] 30)) (w2.heap.size+1) #[.int .i64 o.k,.string o.vol,.string o.file,.string o.to,.string o.into,.int .i64 o.at',.int .i64 o.fr,.int .i64 o.ln,.string o.data] 30:=Blk.new' _ _ _ _ (by simp)
  have hC:=Aa h1 hW
  replace hA:=hA.below hW
  have qG:=h1.size
  generalize (w2.alloc (.cells #[.int .i64 p.size,.int .i64 p.next,.slice ea en ec,.slice va vn vc,.slice ra rn rc,.slice la ln lc] 28)).alloc (.cells #[.int .i64 o.k,.string o.vol,.string o.file,.string o.to,.string o.into,.int .i64 o.at',.int .i64 o.fr,.int .i64 o.ln,.string o.data] 30)=w3 at *
  have qb:=hE.below hC
  have qg:11<=w3.heap.size:=by have:=hC.size;omega
  clear hW h1
  refine (nV_ S ep (w1.heap.size+1) (by omega) _ p o w3 hA hd qm qb qg).mono ?_
  rintro e w4 ⟨⟨v1,c,rfl,hc,PX,hX⟩,hV⟩
  have hN:=(PX.t.mono (show 1<=w3.heap.size by omega)).at'
  obtain⟨R,hR⟩:∃ R,Hid (BD p o=R):=⟨_,rfl⟩
  rw[hR.out] at hc hN hX
  obtain⟨q,hq⟩:∃ q,Hid (R.2=q):=⟨_,rfl⟩
  rw[hq.out] at hN hX
  clear PX
  obtain⟨ea1,en1,ec1,va1,vn1,vc1,ra1,rn1,rc1,la1,ln1,lc1,rfl⟩:=hN.cells
  replace P:=P.below hV
  replace Q:=Q.below hV
  replace hA:=hA.below hV
  replace hC:=Aa hC hV
  clear hV qb qg
  have p0:=fun ob=>Am (w:=w4) ob (Es P).1
  have p1:=fun ob=>Am (w:=w4) ob (Es P).2.1
  have p2:=fun ob=>Am (w:=w4) ob (Es P).2.2.1
  have p3:=fun ob=>Am (w:=w4) ob (Es P).2.2.2.1
  have p4:=fun ob=>Am (w:=w4) ob (Es P).2.2.2.2.1
  have p5:=fun ob=>Am (w:=w4) ob (Es P).2.2.2.2.2
  obtain⟨q0,q1,q2,q3,q4,q5,q6,q7,q8⟩:=ce9 (Q.alloc (.cells #[.int .i64 q.size,.int .i64 q.next,.slice ea1 en1 ec1,.slice va1 vn1 vc1,.slice ra1 rn1 rc1,.slice la1 ln1 lc1] 28))
  go_wp2_with fail
  have hW:Below w4.heap.size w4 (w4.alloc (.cells #[.int .i64 q.size,.int .i64 q.next,.slice ea1 en1 ec1,.slice va1 vn1 vc1,.slice ra1 rn1 rc1,.slice la1 ln1 lc1] 28)):=(Yg _ _).alloc (Zd _) _
  have E:=Blk.new w4 #[.int .i64 q.size,.int .i64 q.next,.slice ea1 en1 ec1,.slice va1 vn1 vc1,.slice ra1 rn1 rc1,.slice la1 ln1 lc1] 28
  clear p0 p1 p2 p3 p4 p5 q0 q1 q2 q3 q4 q5 q6 q7 q8
  replace P:=P.below hW
  replace Q:=Q.below hW
  replace hA:=hA.below hW
  replace hN:=hN.below hW
  replace hC:=Aa hC hW
  obtain⟨nb,ql⟩:∃ nb,nb=w4.heap.size:=⟨_,rfl⟩
  generalize w4.alloc (.cells #[.int .i64 q.size,.int .i64 q.next,.slice ea1 en1 ec1,.slice va1 vn1 vc1,.slice ra1 rn1 rc1,.slice la1 ln1 lc1] 28)=w5 at *
  rw[<-ql] at E ⊢
  clear hW ql
  refine (nK_ (w1.heap.size+1) (by omega) _ p o w5 hA hd qm).mono ?_
  rintro e w6 ⟨⟨v2,c2,rfl,h2,PX,_⟩,hK⟩
  rw[hR.out] at h2 PX
  rw[hq.out] at PX
  obtain⟨ea2,en2,ec2,va2,vn2,vc2,ra2,rn2,rc2,la2,ln2,lc2,rows2,rfl,ht⟩:=PX
  clear ht
  subst hc
  subst h2
  replace P:=P.below hK
  replace Q:=Q.below hK
  replace E:=E.below hK
  replace hA:=hA.below hK
  replace hN:=hN.below hK
  replace hC:=Aa hC hK
  clear hK
  have hW:Below w6.heap.size w6 (w6.alloc (.cells #[.int .i64 q.size,.int .i64 q.next,.slice ea2 en2 ec2,.slice va2 vn2 vc2,.slice ra2 rn2 rc2,.slice la2 ln2 lc2] 28)):=(Yg _ _).alloc (Zd _) _
  replace P:=P.below hW
  replace Q:=Q.below hW
  replace E:=E.below hW
  replace hA:=hA.below hW
  replace hN:=hN.below hW
  replace hC:=Aa hC hW
  obtain⟨c,hc⟩:∃ c,Hid (R.1=c):=⟨_,rfl⟩
  rw[hc.out]
  obtain⟨q0,q1,q2,q3,q4,q5,q6,q7,q8⟩:=ce9 Q
  obtain⟨p0,p1,p2,p3,p4,p5⟩:=Es P
  by_cases hc0:c=0
  ·subst hc0
   obtain⟨hp,hT⟩:=DY hR.out (by rw[hc.out];decide)
   cases qj:(o.k==2)
   ·have qk:¬ o.k=2:=by simpa using qj
    have f2:(o.k != 2)=true:=by simpa using qk
    have d2:decide (o.k=2)=false:=YV qk
    go_wp2
    go_returns
    exact⟨rfl,hC⟩
   ·have ha:o.k=2:=by simpa using qj
    obtain⟨x,z,t,x1,x2,a0,a1,dl,s1,xf,r1,s2,r2,hz⟩:=write_after hp ha (by rw[hT];exact hc.out)
    have he:=vol_opW (Ea hp (by omega) (by rw[hT];exact hc.out)).2.1 ha
    have hY:Hid _:=oth_all hp ha (by rw[hT];exact hc.out) (show (opS p o).2=q by rw[hT];exact hq.out)
    rw[hT,hq.out] at s2 r2
    replace hz:Hid _:=hz
    replace s1:Hid _:=s1
    replace r1:Hid _:=r1
    replace s2:Hid _:=s2
    replace r2:Hid _:=r2
    replace xf:Hid _:=xf
    replace ha:Hid (o.k=2):=ha
    replace hp:Hid (Aj p=true):=hp
    clear hT
    rw[ha.out] at q0
    go_wp2_with fail
    generalize w6.alloc (.cells #[.int .i64 q.size,.int .i64 q.next,.slice ea2 en2 ec2,.slice va2 vn2 vc2,.slice ra2 rn2 rc2,.slice la2 ln2 lc2] 28)=w7 at *
    clear hW
    refine (Fa (w1.heap.size+1) _ p o.vol o.file w7 hA hd he).mono ?_
    rintro e w8 ⟨rfl,hO⟩
    rw[s1.out]
    replace P:=P.below hO
    replace Q:=Q.below hO
    replace E:=E.below hO
    replace hA:=hA.below hO
    replace hN:=hN.below hO
    replace hC:=Aa hC hO
    clear hO q0 q1 q2 q3 q4 q5 q6 q7 q8 p0 p1 p2 p3 p4 p5
    have hS:True:=trivial
    cases t
    case' false=>obtain⟨w9,rfl⟩:∃ y,y=w8:=⟨_,rfl⟩
    case' true=>
     have r1':Hid (Cj p o.vol o.file 0 x.size=(x,true)):=r1.out rfl
     obtain⟨q0,q1,q2,q3,q4,q5,q6,q7,q8⟩:=ce9 Q
     obtain⟨p0,p1,p2,p3,p4,p5⟩:=Es P
     rw[ha.out] at q0
     go_wp2_with fail
     refine (E7 (w1.heap.size+1) (Nat.succ_pos _) _ p o.vol o.file 0 x.size w8 hA hd he).mono ?_
     rintro e w9 ⟨rfl,hP⟩
     rw[r1'.out]
     replace P:=P.below hP
     replace Q:=Q.below hP
     replace E:=E.below hP
     replace hA:=hA.below hP
     replace hN:=hN.below hP
     replace hC:=Aa hC hP
     clear hP q0 q1 q2 q3 q4 q5 q6 q7 q8 p0 p1 p2 p3 p4 p5 r1'
    all_goals
     clear hS
     obtain⟨q0,q1,q2,q3,q4,q5,q6,q7,q8⟩:=ce9 Q
     rw[ha.out] at q0
     go_wp2_with fail
     go_loopw [11] (fun s wr=>∃ j:Nat,j<=100∧Hid (j=0∨x.size+j<=o.at'.toNat)∧s=.string (x++zs j)∧Below w9.heap.size w9 wr) (fun s _=>match s with | .string b=>o.at'.toNat-b.size | _=>0)
     case atStart=>exact⟨0,by omega,Or.inl rfl,by first | (rw[EA];done) | rw[EA,xf.out trivial],Yg _ _⟩
     case round=>
      obtain⟨j,hj,qi,rfl,hB⟩:=hrel
      have hU:(x++zs j).size=x.size+j:=Im x j
      have hQ:=ce9 (Q.below hB)
      have qo:=hQ.1
      have qy:=hQ.2.2.2.2.2.1
      rw[ha.out] at qo
      by_cases hlt:x.size+j<o.at'.toNat
      ·have qw:((x++zs j).size:Int)<o.at':=by rw[hU];omega
       have qn:Hid ((x++zs j)++⟨#[0]⟩=x++zs (j+1)):=zs_snocW x j
       have qs:¬ 9223372036854775807<(x++zs j).size+(⟨#[0]⟩:ByteArray).size:=by
        have:(⟨#[0]⟩:ByteArray).size=1:=rfl
        rw[hU,this];omega
       generalize x++zs j=W at *
       go_wp2
       go_roundw
       case rel=>exact⟨j+1,by omega,Or.inr (by omega),by rw[qn.out],hB⟩
       case measure=>dsimp only;rw[qn.out,Im];omega
      ·have qw:¬ ((x++zs j).size:Int)<o.at':=by rw[hU];omega
       have qh:j=o.at'.toNat-x.size:=by
        rcases qi.out with h | h<;>omega
       have h5:Hid (z=(x++zs j).extract 0 o.at'.toNat++o.data++(x++zs j).extract (min (x++zs j).size (o.at'.toNat+o.data.size)) (x++zs j).size):=by show _=_;rw[qh];exact hz.out
       have qE:o.at'.toNat<=(x++zs j).size:=by rw[hU];omega
       have qe:(x++zs j).size<=300:=by rw[hU];omega
       have qz:=hQ.2.2.2.2.2.2.2.2
       clear hz hU qh qi hlt q0 q1 q2 q3 q4 q5 q6 q7 q8
       generalize x++zs j=W at *
       obtain⟨M,qc⟩:∃ M,min W.size (o.at'.toNat+o.data.size)=M:=⟨_,rfl⟩
       rw[qc] at h5
       have hM:Hid (min (W.size:Int) (o.at'+(o.data.size:Int))=(M:Int)):=by show _=_;omega
       have qq:M<=W.size:=by omega
       clear qc
       obtain⟨wo,rfl⟩:∃ y,y=wr:=⟨_,rfl⟩
       replace P:=P.below hB
       replace Q:=Q.below hB
       replace E:=E.below hB
       replace hA:=hA.below hB
       replace hN:=hN.below hB
       replace hC:=Aa hC hB
       clear hB hQ
       obtain⟨q0,q1,q2,q3,q4,q5,q6,q7,q8⟩:=ce9 Q
       obtain⟨p0,p1,p2,p3,p4,p5⟩:=Es E
       rw[ha.out] at q0
       go_wp2_with fail
       rw[hM.out]
       clear hM qo qy qz
       refine (Fa 1 _ q o.vol o.file wo hN hX he).mono ?_
       rintro e qA ⟨rfl,hg⟩
       rw[s2.out]
       replace P:=P.below hg
       replace Q:=Q.below hg
       replace E:=E.below hg
       replace hA:=hA.below hg
       replace hN:=hN.below hg
       replace hC:=Aa hC hg
       clear hg q0 q1 q2 q3 q4 q5 q6 q7 q8 p0 p1 p2 p3 p4 p5
       obtain⟨q0,q1,q2,q3,q4,q5,q6,q7,q8⟩:=ce9 Q
       obtain⟨p0,p1,p2,p3,p4,p5⟩:=Es E
       rw[ha.out] at q0
       go_wp2_with fail
       refine (E7 1 Nat.one_pos _ q o.vol o.file 0 z.size qA hN hX he).mono ?_
       rintro e qB ⟨rfl,hh⟩
       rw[r2.out]
       replace P:=P.below hh
       replace Q:=Q.below hh
       replace E:=E.below hh
       replace hA:=hA.below hh
       replace hN:=hN.below hh
       replace hC:=Aa hC hh
       clear hh q0 q1 q2 q3 q4 q5 q6 q7 q8 p0 p1 p2 p3 p4 p5
       obtain⟨q0,q1,q2,q3,q4,q5,q6,q7,q8⟩:=ce9 Q
       obtain⟨p0,p1,p2,p3,p4,p5⟩:=Es P
       rw[ha.out] at q0
       go_wp2_with fail
       refine (EK (w1.heap.size+1) _ p o.vol qB hA hd he).mono ?_
       rintro e h6 ⟨⟨fa,fn,fc,rfl,qC,RS⟩,hl⟩
       replace P:=P.below hl
       replace Q:=Q.below hl
       replace E:=E.below hl
       replace hA:=hA.below hl
       replace hN:=hN.below hl
       replace hC:=Aa hC hl
       clear hl q0 q1 q2 q3 q4 q5 q6 q7 q8 p0 p1 p2 p3 p4 p5
       obtain⟨L,hL⟩:∃ L,Hid ((Cp p o.vol).getD []=L):=⟨_,rfl⟩
       have h0:=hY.out
       rw[hL.out] at RS h0
       replace h0:Hid _:=h0
       have qd:AE scs 1 h6 fa fn L:=RS.sl
       have qx:Hid (L.length=fn):=qd.len
       clear RS hY hL s1 s2 r1 r2
       generalize (Cp p o.vol).isSome=isF
       go_wp2_with fail
       go_loopw [19] (fun ix wr=>∃ k:Nat,k<=fn∧ix=.int .i64 k∧Below h6.heap.size h6 wr) (fun ix _=>fn-(intOf ix).toNat)
       case atStart=>exact⟨0,Zg _,rfl,Yg _ _⟩
       case round=>
        obtain⟨k,hk,rfl,hB⟩:=hrel
        replace P:=P.below hB
        replace Q:=Q.below hB
        replace E:=E.below hB
        replace hA:=hA.below hB
        replace hN:=hN.below hB
        obtain⟨q0,q1,q2,q3,q4,q5,q6,q7,q8⟩:=ce9 Q
        rw[ha.out] at q0
        have hw:=Af q0
        have hy:=Af q1
        have hD:=Af q2
        have h9:=Af q5
        have qa:=Af q8
        have hF:=aA_ wr
        by_cases hlt:k<fn
        ·obtain⟨b,of,f,rfl,hx,hv⟩:=HW (qd.below hB) hlt
         have qv:(k:Int)<fn:=by omega
         have qD:(0:Int)<=k:=by omega
         have qu:Hid (f∈L):=Zc hx
         clear hx
         have gf:=Af hv
         cases qt:(f.toList==o.file.toList)
         ·have h3:¬ f.toList=o.file.toList:=by simpa using qt
          obtain⟨y,y1,y2,y3,y4⟩:=h0.out f qu.out h3
          replace y2:Hid _:=y2
          replace y3:Hid _:=y3
          replace y4:Hid _:=y4
          go_wp2_with fail
          refine ab_ (by kernel_rfl) (by kernel_rfl) ?_
          repeat (go_big_quiet_step (rfl))
          refine wpQuiet_nil ?_
          intro hZ hf
          have ho:=ah_ hf
          clear hf hw hy hD h9 qa gf hF q0 q1 q2 q3 q4 q5 q6 q7 q8
          replace P:=P.below ho
          replace Q:=Q.below ho
          replace E:=E.below ho
          replace hA:=hA.below ho
          replace hN:=hN.below ho
          replace hv:=Ab ho hv
          obtain⟨q0,q1,q2,q3,q4,q5,q6,q7,q8⟩:=ce9 Q
          rw[ha.out] at q0
          obtain⟨p0,p1,p2,p3,p4,p5⟩:=Es P
          have hw:=Af q0
          have hy:=Af q1
          have hD:=Af q2
          have gf:=Af hv
          have g0:=Af p0
          have g1:=Af p1
          have g2:=Af p2
          have g3:=Af p3
          have g4:=Af p4
          have g5:=Af p5
          have hF:=aA_ hZ
          have kA:∀ u,Below hZ.heap.size hZ u->Calls prog 11 #[.agg #[.int .i64 p.size,.int .i64 p.next,.slice ea en ec,.slice va vn vc,.slice ra rn rc,.slice la ln lc],.string o.vol,.string f] u fun e w'=>e=.returned (.tuple #[.int .i64 y.size,.bool true])∧Below u.heap.size u w':=fun u hu=>by
           have:=Fa (w1.heap.size+1) _ p o.vol f u (hA.below hu) hd he
           rw[y2.out] at this;exact this
          go_wp2_with fail
          refine ab_ (by kernel_rfl) (by kernel_rfl) ?_
          repeat (go_big_quiet_step (first | rfl | (go_at_call 11;exact an_ (kA _ (Grw.h _)))))
          refine wpQuiet_nil ?_
          intro h7 hG
          have hr:=ah_ hG
          clear hG hw hy hD gf g0 g1 g2 g3 g4 g5 hF kA q0 q1 q2 q3 q4 q5 q6 q7 q8 p0 p1 p2 p3 p4 p5
          replace P:=P.below hr
          replace Q:=Q.below hr
          replace E:=E.below hr
          replace hA:=hA.below hr
          replace hN:=hN.below hr
          replace hv:=Ab hr hv
          obtain⟨q0,q1,q2,q3,q4,q5,q6,q7,q8⟩:=ce9 Q
          rw[ha.out] at q0
          obtain⟨p0,p1,p2,p3,p4,p5⟩:=Es P
          have hw:=Af q0
          have hy:=Af q1
          have hD:=Af q2
          have gf:=Af hv
          have g0:=Af p0
          have g1:=Af p1
          have g2:=Af p2
          have g3:=Af p3
          have g4:=Af p4
          have g5:=Af p5
          have hF:=aA_ h7
          have kA:∀ u,Below h7.heap.size h7 u->Calls prog 12 #[.agg #[.int .i64 p.size,.int .i64 p.next,.slice ea en ec,.slice va vn vc,.slice ra rn rc,.slice la ln lc],.string o.vol,.string f,.int .i64 0,.int .i64 y.size] u fun e w'=>e=.returned (.tuple #[.string y,.bool true])∧Below u.heap.size u w':=fun u hu=>by
           have:=E7 (w1.heap.size+1) (Nat.succ_pos _) _ p o.vol f 0 y.size u (hA.below hu) hd he
           rw[y3.out] at this;exact this
          go_wp2_with fail
          refine ab_ (by kernel_rfl) (by kernel_rfl) ?_
          repeat (go_big_quiet_step (first | rfl | (go_at_call 12;exact an_ (kA _ (Grw.h _)))))
          refine wpQuiet_nil ?_
          intro h8 hH
          have hs:=ah_ hH
          clear hH hw hy hD gf g0 g1 g2 g3 g4 g5 hF kA q0 q1 q2 q3 q4 q5 q6 q7 q8 p0 p1 p2 p3 p4 p5
          replace P:=P.below hs
          replace Q:=Q.below hs
          replace E:=E.below hs
          replace hA:=hA.below hs
          replace hN:=hN.below hs
          replace hv:=Ab hs hv
          obtain⟨q0,q1,q2,q3,q4,q5,q6,q7,q8⟩:=ce9 Q
          rw[ha.out] at q0
          obtain⟨p0,p1,p2,p3,p4,p5⟩:=Es E
          have hw:=Af q0
          have hy:=Af q1
          have hD:=Af q2
          have gf:=Af hv
          have g0:=Af p0
          have g1:=Af p1
          have g2:=Af p2
          have g3:=Af p3
          have g4:=Af p4
          have g5:=Af p5
          have hF:=aA_ h8
          have kA:∀ u,Below h8.heap.size h8 u->Calls prog 12 #[.agg #[.int .i64 q.size,.int .i64 q.next,.slice ea1 en1 ec1,.slice va1 vn1 vc1,.slice ra1 rn1 rc1,.slice la1 ln1 lc1],.string o.vol,.string f,.int .i64 0,.int .i64 y.size] u fun e w'=>e=.returned (.tuple #[.string y,.bool true])∧Below u.heap.size u w':=fun u hu=>by
           have:=E7 1 Nat.one_pos _ q o.vol f 0 y.size u (hN.below hu) hX he
           rw[y4.out] at this;exact this
          go_wp2_with fail
          refine ab_ (by kernel_rfl) (by kernel_rfl) ?_
          repeat (go_big_quiet_step (first | rfl | (go_at_call 12;exact an_ (kA _ (Grw.h _)))))
          refine wpQuiet_nil ?_
          intro qL hI
          have h4:=ah_ hI
          clear hI hw hy hD gf g0 g1 g2 g3 g4 g5 hF kA q0 q1 q2 q3 q4 q5 q6 q7 q8 p0 p1 p2 p3 p4 p5
          have qJ:(y.toList==y.toList)=true:=by simp
          have qI:(y.toList != y.toList)=false:=by simp
          have qp:=Aa (Aa (Aa (Aa hB ho) hr) hs) h4
          go_wp2
          go_roundw
          case rel=>exact⟨k+1,by omega,by go_num,qp⟩
          case measure=>simp[intOf];omega
         ·go_wp2_with fail
          refine ab_ (by kernel_rfl) (by kernel_rfl) ?_
          repeat (go_big_quiet_step (rfl))
          refine wpQuiet_nil ?_
          intro hZ hf
          have hJ:=Aa hB (ah_ hf)
          clear hf hw hy hD h9 qa gf hF q0 q1 q2 q3 q4 q5 q6 q7 q8
          go_wp2
          go_roundw
          case rel=>exact⟨k+1,by omega,by go_num,hJ⟩
          case measure=>simp[intOf];omega
        ·have qv:¬ (k:Int)<fn:=by omega
         have qF:(W.extract 0 o.at'.toNat).size<=300:=by rw[ByteArray.size_extract];omega
         have qH:(W.extract M W.size).size<=300:=by rw[ByteArray.size_extract];omega
         have qr:¬ 9223372036854775807<(W.extract 0 o.at'.toNat).size+o.data.size:=by omega
         have h2:¬ 9223372036854775807<(W.extract 0 o.at'.toNat++o.data).size+(W.extract M W.size).size:=by rw[ByteArray.size_append];omega
         have qK:(z.toList==(W.extract 0 o.at'.toNat++o.data++W.extract M W.size).toList)=true:=by rw[<-h5.out];simp
         clear h5
         go_wp2_with fail
         refine ab_ (by kernel_rfl) (by kernel_rfl) ?_
         repeat (go_big_quiet_step (rfl))
         refine wpQuiet_nil ?_
         intro hZ hf
         have hJ:=Aa hB (ah_ hf)
         clear hf
         go_wp2
         go_returns
         exact⟨rfl,Aa hC hJ⟩
  ·have qr:(c==0)=false:=ZV.2 hc0
   go_wp2
   go_returns
   exact⟨rfl,hC⟩
 ·have hb:decide (1048576<n)=true:=by simp;omega
  go_enter func3,ntmps3
  go_wp2_with fail
  refine (HZ a n cap _ hm).mono ?_
  rintro e w1 ⟨rfl,rfl⟩
  rw[hb]
  go_wp2
  go_returns
  exact⟨rfl,Yg _ _⟩
end Go.Proofs.YtkodenjhajafpaaGreatDoor
