/- At every code: what is cut has that length, what is punched has zeros there: the walk. -/
import Derived.Test.YtkodenjhajafpaaGreatDoorU39
import Derived.Test.YtkodenjhajafpaaGreatDoorU48
set_option maxHeartbeats 20000000
set_option maxRecDepth 100000
namespace Go.Proofs.YtkodenjhajafpaaGreatDoor
open Go Go.RowKit Go.BigFrame _root_.Go.Proofs.Tryz
theorem zeros_text (u:World)(m:Nat)(hm:m<=200000):∃ W,(Instr.makeSlice 22 (.int .i64 (m:Int)) (.int .i64 (m:Int))).run prog u=.ok (.slice (some ⟨u.heap.size,0,none⟩) m m) W∧(convert 22 9 (.slice (some ⟨u.heap.size,0,none⟩) m m)).run prog W=.ok (.string (zs m)) W∧Below u.heap.size u W:=by
 have ha:(prog.info? 5).map (fun i=>(i.zero,i.size,i.bytes))=some (some (.int .u8 0),1,1):=by kernel_rfl
 obtain⟨i0,hi,hg,hh,hj⟩:=info_parts ha
 have he:(Instr.makeSlice 22 (.int .i64 (m:Int)) (.int .i64 (m:Int))).run prog u=.ok (.slice (some ⟨u.heap.size,0,none⟩) m m) (u.alloc (.cells (madeCells #[.int .u8 0] m) 5)):=by
  have hf:=run_make (P:=prog) u 22 5 i0 (.int .u8 0) underlying22 hi hg .i64 .i64 (m:Int) (m:Int) (by omega) (YB _) (by rw[hj];omega) (by omega)
  simpa [hh,Value.cells] using hf
 have hb:∀ i,i<m->(u.alloc (.cells (madeCells #[.int .u8 0] m) 5)).cell? ⟨u.heap.size,0+i,none⟩=some (.int .u8 ((List.replicate m (0:Int)).getD i 0)):=by
  intro i hi
  rw[Zq,(Blk.new u (madeCells #[.int .u8 0] m) 5).cell i,<-Array.getElem?_toList,toList_madeCells_one]
  simp[hi]
 have hc:=run_convert_bytes_arg (P:=prog) _ 22 5 underlying22 underlying5 u.heap.size 0 m m (List.replicate m 0) (by simp) hb 9 underlying9
 have e:strOfNums (List.replicate m (0:Int))=zs m:=by simp[strOfNums,zs]
 rw[e] at hc
 exact⟨_,he,hc,(Yg _ _).alloc (Zd _) _⟩
theorem vol_op {o:Opr}(h:opB o=true)(hk:o.k=3∨o.k=10):o.vol.size<=1048576:=by
 unfold opB at h
 rcases hk with hk | hk
 ·rw[if_neg (by omega),if_neg (by omega),if_pos hk] at h
  simp only[nameB,Zf,ZU] at h
  omega
 ·rw[if_neg (by omega),if_neg (by omega),if_neg (by omega),if_neg (by omega),if_pos hk] at h
  simp only[nameB,Zf,ZU] at h
  omega
theorem zs_snoc (x:ByteArray)(j:Nat):(x++zs j)++⟨#[0]⟩=x++zs (j+1):=by
 apply BV
 rw[B5,B5,B5,ZC]
 congr 1
 simp[zs,List.replicate_succ']
theorem walkCut (S:Addr->Prop)(ep:Addr)(a:Option Addr)(n cap:Nat)(w:World)(h:Co w a n)(hm:n<=9223372036854775807)(hE:Gf S ep w)(hgl:11<=w.heap.size) :
  Calls prog 4 #[.slice a n cap] w fun e w'=>e=.returned (.bool true)∧Below w.heap.size w w':=by
 by_cases hn:n<=1048576
 ·have hb:decide (1048576<n)=false:=by simp;omega
  go_enter func4,ntmps4
  go_wp2_with fail
  refine (HZ a n cap _ hm).mono ?_
  rintro e w1 ⟨rfl,rfl⟩
  rw[hb]
  go_wp2_with fail
  refine (G4 a n cap _ h hn).mono ?_
  rintro e w2 ⟨⟨v,p,o,rfl,PT,hT,h2⟩,hJ⟩
  have hd:=hT.1
  have hA:=PT.at'
  obtain⟨ea,en,ec,va,vn,vc,ra,rn,rc,la,ln,lc,rows,rfl,ho⟩:=PT
  clear ho hT hb
  go_wp2_with fail
  have hW:Below w2.heap.size w2 ((w2.alloc (.cells #[.int .i64 p.size,.int .i64 p.next,.slice ea en ec,.slice va vn vc,.slice ra rn rc,.slice la ln lc] 28)).alloc (.cells #[.int .i64 o.k,.string o.vol,.string o.file,.string o.to,.string o.into,.int .i64 o.at',.int .i64 o.fr,.int .i64 o.ln,.string o.data] 30)):=by go_grown
  have P:=(Blk.new w2 #[.int .i64 p.size,.int .i64 p.next,.slice ea en ec,.slice va vn vc,.slice ra rn rc,.slice la ln lc] 28).alloc (.cells #[.int .i64 o.k,.string o.vol,.string o.file,.string o.to,.string o.into,.int .i64 o.at',.int .i64 o.fr,.int .i64 o.ln,.string o.data] 30)
  have Q:Blk ((w2.alloc (.cells #[.int .i64 p.size,.int .i64 p.next,.slice ea en ec,.slice va vn vc,.slice ra rn rc,.slice la ln lc] 28)).alloc (.cells #[.int .i64 o.k,.string o.vol,.string o.file,.string o.to,.string o.into,.int .i64 o.at',.int .i64 o.fr,.int .i64 o.ln,.string o.data] 30)) (w2.heap.size+1) #[.int .i64 o.k,.string o.vol,.string o.file,.string o.to,.string o.into,.int .i64 o.at',.int .i64 o.fr,.int .i64 o.ln,.string o.data] 30:=Blk.new' _ _ _ _ (by simp)
  have hC:=Aa hJ hW
  replace hA:=hA.below hW
  have qd:=hJ.size
  generalize (w2.alloc (.cells #[.int .i64 p.size,.int .i64 p.next,.slice ea en ec,.slice va vn vc,.slice ra rn rc,.slice la ln lc] 28)).alloc (.cells #[.int .i64 o.k,.string o.vol,.string o.file,.string o.to,.string o.into,.int .i64 o.at',.int .i64 o.fr,.int .i64 o.ln,.string o.data] 30)=w3 at *
  have hP:=hE.below hC
  have hU:11<=w3.heap.size:=by have:=hC.size;omega
  clear hW hJ
  refine (nV_ S ep (w1.heap.size+1) (by omega) _ p o w3 hA hd h2 hP hU).mono ?_
  rintro e w4 ⟨⟨v1,c,rfl,hc,PX,hv⟩,hs⟩
  have hN:=(PX.t.mono (show 1<=w3.heap.size by omega)).at'
  obtain⟨R,hR⟩:∃ R,Hid (BD p o=R):=⟨_,rfl⟩
  rw[hR.out] at hc hN hv
  obtain⟨q,hq⟩:∃ q,Hid (R.2=q):=⟨_,rfl⟩
  rw[hq.out] at hN hv
  clear PX
  obtain⟨ea1,en1,ec1,va1,vn1,vc1,ra1,rn1,rc1,la1,ln1,lc1,rfl⟩:=hN.cells
  replace P:=P.below hs
  replace Q:=Q.below hs
  replace hA:=hA.below hs
  replace hC:=Aa hC hs
  clear hs hP hU
  have p0:=fun ob=>Am (w:=w4) ob (Es P).1
  have p1:=fun ob=>Am (w:=w4) ob (Es P).2.1
  have p2:=fun ob=>Am (w:=w4) ob (Es P).2.2.1
  have p3:=fun ob=>Am (w:=w4) ob (Es P).2.2.2.1
  have p4:=fun ob=>Am (w:=w4) ob (Es P).2.2.2.2.1
  have p5:=fun ob=>Am (w:=w4) ob (Es P).2.2.2.2.2
  obtain⟨q0,q1,q2,q3,q4,q5,q6,q7,q8⟩:=ce9 (Q.alloc (.cells #[.int .i64 q.size,.int .i64 q.next,.slice ea1 en1 ec1,.slice va1 vn1 vc1,.slice ra1 rn1 rc1,.slice la1 ln1 lc1] 28))
  go_wp2_with fail
  have hW:Below w4.heap.size w4 (w4.alloc (.cells #[.int .i64 q.size,.int .i64 q.next,.slice ea1 en1 ec1,.slice va1 vn1 vc1,.slice ra1 rn1 rc1,.slice la1 ln1 lc1] 28)):=(Yg _ _).alloc (Zd _) _
  have E:=Blk.new w4 #[.int .i64 q.size,.int .i64 q.next,.slice ea1 en1 ec1,.slice va1 vn1 vc1,.slice ra1 rn1 rc1,.slice la1 ln1 lc1] 28
  clear p0 p1 p2 p3 p4 p5 q0 q1 q2 q3 q4 q5 q6 q7 q8
  replace P:=P.below hW
  replace Q:=Q.below hW
  replace hA:=hA.below hW
  replace hN:=hN.below hW
  replace hC:=Aa hC hW
  obtain⟨nb,h1⟩:∃ nb,nb=w4.heap.size:=⟨_,rfl⟩
  generalize w4.alloc (.cells #[.int .i64 q.size,.int .i64 q.next,.slice ea1 en1 ec1,.slice va1 vn1 vc1,.slice ra1 rn1 rc1,.slice la1 ln1 lc1] 28)=w5 at *
  rw[<-h1] at E ⊢
  clear hW h1
  refine (nK_ (w1.heap.size+1) (by omega) _ p o w5 hA hd h2).mono ?_
  rintro e w6 ⟨⟨v2,c2,rfl,hK,PX,_⟩,hu⟩
  rw[hR.out] at hK PX
  rw[hq.out] at PX
  obtain⟨ea2,en2,ec2,va2,vn2,vc2,ra2,rn2,rc2,la2,ln2,lc2,rows2,rfl,ho⟩:=PX
  clear ho
  subst hc
  subst hK
  replace P:=P.below hu
  replace Q:=Q.below hu
  replace E:=E.below hu
  replace hA:=hA.below hu
  replace hN:=hN.below hu
  replace hC:=Aa hC hu
  clear hu
  have hW:Below w6.heap.size w6 (w6.alloc (.cells #[.int .i64 q.size,.int .i64 q.next,.slice ea2 en2 ec2,.slice va2 vn2 vc2,.slice ra2 rn2 rc2,.slice la2 ln2 lc2] 28)):=(Yg _ _).alloc (Zd _) _
  replace P:=P.below hW
  replace Q:=Q.below hW
  replace E:=E.below hW
  replace hA:=hA.below hW
  replace hN:=hN.below hW
  replace hC:=Aa hC hW
  obtain⟨c,hc⟩:∃ c,Hid (R.1=c):=⟨_,rfl⟩
  rw[hc.out]
  obtain⟨q0,q1,q2,q3,q4,q5,q6,q7,q8⟩:=ce9 Q
  obtain⟨p0,p1,p2,p3,p4,p5⟩:=Es P
  by_cases hc0:c=0
  ·subst hc0
   obtain⟨hp,ht⟩:=DY hR.out (by rw[hc.out];decide)
   cases hV:(o.k==3)
   ·cases hX:(o.k==10)
    ·have hZ:¬ o.k=3:=by simpa using hV
     have h0:¬ o.k=10:=by simpa using hX
     have f3:(o.k != 3)=true:=by simpa using hZ
     have fA:(o.k != 10)=true:=by simpa using h0
     have d3:decide (o.k=3)=false:=YV hZ
     have dA:decide (o.k=10)=false:=YV h0
     go_wp2
     go_returns
     exact⟨rfl,hC⟩
    ·have hf:o.k=10:=by simpa using hX
     obtain⟨x,z,x1,x2,a0,a1,l0,l1,s1,r1,s2,r2,hz⟩:=HA hp hf (by rw[ht];exact hc.out)
     have hg:=vol_op (Ea hp (by omega) (by rw[ht];exact hc.out)).2.1 (Or.inr hf)
     rw[ht,hq.out] at s2 r2
     replace hz:Hid _:=hz
     replace s1:Hid _:=s1
     replace r1:Hid _:=r1
     replace s2:Hid _:=s2
     replace r2:Hid _:=r2
     replace hf:Hid (o.k=10):=hf
     replace hp:Hid (Aj p=true):=hp
     clear ht
     rw[hf.out] at q0
     go_wp2_with fail
     generalize w6.alloc (.cells #[.int .i64 q.size,.int .i64 q.next,.slice ea2 en2 ec2,.slice va2 vn2 vc2,.slice ra2 rn2 rc2,.slice la2 ln2 lc2] 28)=w7 at *
     clear hW
     refine (Fa (w1.heap.size+1) _ p o.vol o.file w7 hA hd hg).mono ?_
     rintro e w8 ⟨rfl,hk⟩
     rw[s1.out]
     replace P:=P.below hk
     replace Q:=Q.below hk
     replace E:=E.below hk
     replace hA:=hA.below hk
     replace hN:=hN.below hk
     replace hC:=Aa hC hk
     clear hk q0 q1 q2 q3 q4 q5 q6 q7 q8 p0 p1 p2 p3 p4 p5
     obtain⟨q0,q1,q2,q3,q4,q5,q6,q7,q8⟩:=ce9 Q
     obtain⟨p0,p1,p2,p3,p4,p5⟩:=Es P
     rw[hf.out] at q0
     go_wp2_with fail
     refine (E7 (w1.heap.size+1) (Nat.succ_pos _) _ p o.vol o.file 0 x.size w8 hA hd hg).mono ?_
     rintro e w9 ⟨rfl,hl⟩
     rw[r1.out]
     replace P:=P.below hl
     replace Q:=Q.below hl
     replace E:=E.below hl
     replace hN:=hN.below hl
     replace hC:=Aa hC hl
     clear hl q0 q1 q2 q3 q4 q5 q6 q7 q8 p0 p1 p2 p3 p4 p5 hA
     obtain⟨q0,q1,q2,q3,q4,q5,q6,q7,q8⟩:=ce9 Q
     obtain⟨p0,p1,p2,p3,p4,p5⟩:=Es E
     rw[hf.out] at q0
     go_wp2_with fail
     refine (Fa 1 _ q o.vol o.file w9 hN hv hg).mono ?_
     rintro e hO ⟨rfl,ha⟩
     rw[s2.out]
     replace Q:=Q.below ha
     replace E:=E.below ha
     replace hN:=hN.below ha
     replace hC:=Aa hC ha
     clear ha q0 q1 q2 q3 q4 q5 q6 q7 q8 p0 p1 p2 p3 p4 p5
     obtain⟨q0,q1,q2,q3,q4,q5,q6,q7,q8⟩:=ce9 Q
     obtain⟨p0,p1,p2,p3,p4,p5⟩:=Es E
     rw[hf.out] at q0
     go_wp2_with fail
     refine (E7 1 Nat.one_pos _ q o.vol o.file 0 z.size hO hN hv hg).mono ?_
     rintro e hD ⟨rfl,hh⟩
     rw[r2.out]
     replace Q:=Q.below hh
     replace hC:=Aa hC hh
     clear hh q0 q1 q2 q3 q4 q5 q6 q7 q8 p0 p1 p2 p3 p4 p5 hN E
     obtain⟨q0,q1,q2,q3,q4,q5,q6,q7,q8⟩:=ce9 Q
     rw[hf.out] at q0
     go_wp2_with fail
     go_loopw [11] (fun s wr=>∃ j:Nat,j<=200∧Hid (j=0∨x.size+j<=(o.at'+o.ln).toNat)∧s=.string (x++zs j)∧Below hD.heap.size hD wr) (fun s _=>match s with | .string b=>(o.at'+o.ln).toNat-b.size | _=>0)
     case atStart=>exact⟨0,by omega,Or.inl rfl,by rw[EA],Yg _ _⟩
     case round=>
      obtain⟨j,hj,hG,rfl,hB⟩:=hrel
      have hr:(x++zs j).size=x.size+j:=Im x j
      have hQ:=ce9 (Q.below hB)
      have hM:=hQ.1
      rw[hf.out] at hM
      by_cases hlt:x.size+j<(o.at'+o.ln).toNat
      ·have hH:((x++zs j).size:Int)<o.at'+o.ln:=by rw[hr];omega
       have hw:Hid ((x++zs j)++⟨#[0]⟩=x++zs (j+1)):=zs_snoc x j
       have hL:¬ 9223372036854775807<(x++zs j).size+(⟨#[0]⟩:ByteArray).size:=by
        have:(⟨#[0]⟩:ByteArray).size=1:=rfl
        rw[hr,this];omega
       generalize x++zs j=W at *
       go_wp2
       go_roundw
       case rel=>exact⟨j+1,by omega,Or.inr (by omega),by rw[hw.out],hB⟩
       case measure=>dsimp only;rw[hw.out,Im];omega
      ·have hH:¬ ((x++zs j).size:Int)<o.at'+o.ln:=by rw[hr];omega
       have hF:j=(o.at'+o.ln).toNat-x.size:=by
        rcases hG.out with h | h<;>omega
       have hy:Hid (z=(x++zs j).extract 0 o.at'.toNat++zs o.ln.toNat++(x++zs j).extract (o.at'+o.ln).toNat (x++zs j).size):=by show _=_;rw[hF];exact hz.out
       have hY:(o.at'+o.ln).toNat<=(x++zs j).size:=by rw[hr];omega
       have hS:(x++zs j).size<=300:=by rw[hr];omega
       have qh:=hQ.2.2.2.2.2.1
       have h8:=hQ.2.2.2.2.2.2.2.1
       clear hz hr hF hG hlt
       generalize x++zs j=W at *
       obtain⟨m,h4⟩:∃ m:Nat,o.ln=m:=⟨o.ln.toNat,by omega⟩
       have qa:m<=100:=by omega
       have h5:o.ln.toNat=m:=by omega
       rw[h5] at hy
       rw[h4] at h8 hH hY hy l0 l1
       obtain⟨W4,qb,h9,hs⟩:=zeros_text wr m (by omega)
       go_wp2_with fail
       obtain⟨u0,u1,u2,u3,u4,u5,u6,u7,u8⟩:=ce9 ((Q.below hB).below hs)
       have qe:=Af u0
       have qf:=Af u1
       have qg:=Af u2
       have qi:=Af u5
       have qj:=Af u7
       have qc:(W.extract 0 o.at'.toNat).size<=300:=by rw[ByteArray.size_extract];omega
       have h6:(W.extract (o.at'+m).toNat W.size).size<=300:=by rw[ByteArray.size_extract];omega
       have h3:¬ 9223372036854775807<(W.extract 0 o.at'.toNat).size+(zs m).size:=by rw[ca_];omega
       have hK:¬ 9223372036854775807<(W.extract 0 o.at'.toNat++zs m).size+(W.extract (o.at'+m).toNat W.size).size:=by rw[ByteArray.size_append,ca_];omega
       have h7:(z.toList==(W.extract 0 o.at'.toNat++zs m++W.extract (o.at'+m).toNat W.size).toList)=true:=by rw[<-hy.out];simp
       refine ab_ (by kernel_rfl) (by kernel_rfl) ?_
       repeat (go_big_quiet_step (rfl))
       refine wpQuiet_nil ?_
       intro qk hx
       have hI:=Aa hs (ah_ hx)
       clear hx
       go_wp2
       go_returns
       exact⟨rfl,Aa (Aa hC hB) hI⟩
   ·have he:o.k=3:=by simpa using hV
    obtain⟨x,z,x1,x2,l0,l1,s1,r1,s2,r2,hz⟩:=HY hp he (by rw[ht];exact hc.out)
    have hg:=vol_op (Ea hp (by omega) (by rw[ht];exact hc.out)).2.1 (Or.inl he)
    rw[ht,hq.out] at s2 r2
    replace hz:Hid _:=hz
    replace s1:Hid _:=s1
    replace r1:Hid _:=r1
    replace s2:Hid _:=s2
    replace r2:Hid _:=r2
    replace he:Hid (o.k=3):=he
    replace hp:Hid (Aj p=true):=hp
    clear ht
    rw[he.out] at q0
    go_wp2_with fail
    generalize w6.alloc (.cells #[.int .i64 q.size,.int .i64 q.next,.slice ea2 en2 ec2,.slice va2 vn2 vc2,.slice ra2 rn2 rc2,.slice la2 ln2 lc2] 28)=w7 at *
    clear hW
    refine (Fa (w1.heap.size+1) _ p o.vol o.file w7 hA hd hg).mono ?_
    rintro e w8 ⟨rfl,hk⟩
    rw[s1.out]
    replace P:=P.below hk
    replace Q:=Q.below hk
    replace E:=E.below hk
    replace hA:=hA.below hk
    replace hN:=hN.below hk
    replace hC:=Aa hC hk
    clear hk q0 q1 q2 q3 q4 q5 q6 q7 q8 p0 p1 p2 p3 p4 p5
    obtain⟨q0,q1,q2,q3,q4,q5,q6,q7,q8⟩:=ce9 Q
    obtain⟨p0,p1,p2,p3,p4,p5⟩:=Es P
    rw[he.out] at q0
    go_wp2_with fail
    refine (E7 (w1.heap.size+1) (Nat.succ_pos _) _ p o.vol o.file 0 x.size w8 hA hd hg).mono ?_
    rintro e w9 ⟨rfl,hl⟩
    rw[r1.out]
    replace P:=P.below hl
    replace Q:=Q.below hl
    replace E:=E.below hl
    replace hN:=hN.below hl
    replace hC:=Aa hC hl
    clear hl q0 q1 q2 q3 q4 q5 q6 q7 q8 p0 p1 p2 p3 p4 p5 hA
    obtain⟨q0,q1,q2,q3,q4,q5,q6,q7,q8⟩:=ce9 Q
    obtain⟨p0,p1,p2,p3,p4,p5⟩:=Es E
    rw[he.out] at q0
    go_wp2_with fail
    refine (Fa 1 _ q o.vol o.file w9 hN hv hg).mono ?_
    rintro e hO ⟨rfl,ha⟩
    rw[s2.out]
    replace Q:=Q.below ha
    replace E:=E.below ha
    replace hN:=hN.below ha
    replace hC:=Aa hC ha
    clear ha q0 q1 q2 q3 q4 q5 q6 q7 q8 p0 p1 p2 p3 p4 p5
    obtain⟨q0,q1,q2,q3,q4,q5,q6,q7,q8⟩:=ce9 Q
    obtain⟨p0,p1,p2,p3,p4,p5⟩:=Es E
    rw[he.out] at q0
    go_wp2_with fail
    refine (E7 1 Nat.one_pos _ q o.vol o.file 0 z.size hO hN hv hg).mono ?_
    rintro e hD ⟨rfl,hh⟩
    rw[r2.out]
    replace Q:=Q.below hh
    replace hC:=Aa hC hh
    clear hh q0 q1 q2 q3 q4 q5 q6 q7 q8 p0 p1 p2 p3 p4 p5 hN E
    obtain⟨q0,q1,q2,q3,q4,q5,q6,q7,q8⟩:=ce9 Q
    rw[he.out] at q0
    go_wp2_with fail
    go_loopw [11] (fun s wr=>∃ j:Nat,j<=100∧Hid (j=0∨x.size+j<=o.ln.toNat)∧s=.string (x++zs j)∧Below hD.heap.size hD wr) (fun s _=>match s with | .string b=>o.ln.toNat-b.size | _=>0)
    case atStart=>exact⟨0,by omega,Or.inl rfl,by rw[EA],Yg _ _⟩
    case round=>
     obtain⟨j,hj,hG,rfl,hB⟩:=hrel
     have hr:(x++zs j).size=x.size+j:=Im x j
     have hQ:=ce9 (Q.below hB)
     have hM:=hQ.1
     rw[he.out] at hM
     by_cases hlt:x.size+j<o.ln.toNat
     ·have hH:((x++zs j).size:Int)<o.ln:=by rw[hr];omega
      have hw:Hid ((x++zs j)++⟨#[0]⟩=x++zs (j+1)):=zs_snoc x j
      have hL:¬ 9223372036854775807<(x++zs j).size+(⟨#[0]⟩:ByteArray).size:=by
       have:(⟨#[0]⟩:ByteArray).size=1:=rfl
       rw[hr,this];omega
      generalize x++zs j=W at *
      go_wp2
      go_roundw
      case rel=>exact⟨j+1,by omega,Or.inr (by omega),by rw[hw.out],hB⟩
      case measure=>dsimp only;rw[hw.out,Im];omega
     ·have hH:¬ ((x++zs j).size:Int)<o.ln:=by rw[hr];omega
      have hF:j=o.ln.toNat-x.size:=by
       rcases hG.out with h | h<;>omega
      have hy:Hid (z=(x++zs j).extract 0 o.ln.toNat):=by show _=_;rw[hF];exact hz.out
      have hY:o.ln.toNat<=(x++zs j).size:=by rw[hr];omega
      generalize x++zs j=W at *
      have h7:(z.toList==(W.extract 0 o.ln.toNat).toList)=true:=by rw[<-hy.out];simp
      clear hz
      go_wp2
      go_returns
      exact⟨rfl,Aa hC hB⟩
  ·have h3:(c==0)=false:=ZV.2 hc0
   go_wp2
   go_returns
   exact⟨rfl,hC⟩
 ·have hb:decide (1048576<n)=true:=by simp;omega
  go_enter func4,ntmps4
  go_wp2_with fail
  refine (HZ a n cap _ hm).mono ?_
  rintro e w1 ⟨rfl,rfl⟩
  rw[hb]
  go_wp2
  go_returns
  exact⟨rfl,Yg _ _⟩
end Go.Proofs.YtkodenjhajafpaaGreatDoor
