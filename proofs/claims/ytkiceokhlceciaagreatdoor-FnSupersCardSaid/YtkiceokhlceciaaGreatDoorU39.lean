/- Texts of pools, read and written; what is drawn. -/
import Derived.Test.YtkiceokhlceciaaGreatDoorU38
set_option maxHeartbeats 20000000
set_option maxRecDepth 100000
namespace Go.Proofs.YtkiceokhlceciaaGreatDoor
open Go Go.RowKit Go.BigFrame Tryz
theorem Hp (rb:Nat)(l:By)(r:List By)(w:World)(h:CK w rb (l::r))(ha:ahP Cl l=true)(hG:Glb w)(hrb:9<=rb)(hl:(l::r).length<=60000) :
  Calls prog 89 #[.pointer (some ⟨rb,0,none⟩)] w fun e w'=>(match FP l r with
   |none=>Pan e
   |some q=>∃ v,e=.returned v∧Nd w' w.heap.size v q.1∧CK w' rb q.2)∧w.grownBy w' (some rb):=by
 obtain⟨M,hM⟩:∃ M,Hid (FP l r=M):=⟨_,rfl⟩
 rw[hM.out]
 have qn:=h.lt
 simp only[Zw] at hl
 obtain⟨i0,qz,qP,qQ,qR⟩:=info_parts Ma
 obtain⟨i1,qA,qM,qN,qO⟩:=info_parts Mb
 have hX:Below w.heap.size w (w.alloc (.cells #[.int .i64 0,.string ⟨#[]⟩,.bool false,.slice none 0 0] tV)):=(Yg _ _).alloc (Zd _) _
 have QB:=Blk.new w #[.int .i64 0,.string ⟨#[]⟩,.bool false,.slice none 0 0] tV
 have D0:=h.below hX
 have G0:=hG.below hX
 have q:=CZ rb (l::r) ⟨#[118,111,108,117,109,101]⟩ 3 _ D0 G0 hrb (by decide) (by omega) (by omega)
 rw[show (⟨#[118,111,108,117,109,101]⟩:ByteArray).data.toList=Cl from rfl] at q
 go_enter func89,ntmps89
 go_wp2_with fail
 generalize w.alloc (.cells #[.int .i64 0,.string ⟨#[]⟩,.bool false,.slice none 0 0] tV)=W0 at *
 refine q.mono ?_
 clear q
 cases ht:Ck Cl 3 (l::r) with
 |none=>
  rintro e w2 ⟨⟨tp,pe,rfl⟩,hB⟩
  have hc:M=none:=by rw[<-hM.out,FP,LY ha ht];rfl
  subst hc
  go_wp2
  exact⟨rfl,⟨tp,pe,rfl⟩,A5 (BT hX) hB (fun k e=>by cases e;exact .inr rfl)⟩
 |some qq=>
  obtain⟨xa,xf,xn,rfl,qr⟩:=LZ ha ht
  obtain⟨I,qk⟩:∃ I,Hid (itemsP r.length r=I):=⟨_,rfl⟩
  have h3:Hid (M=((numP xa).bind fun i=>(Cd xn).map fun b=>(i,bA xf,b)).bind fun h=>I.map fun q=>(⟨h.1,h.2.1,h.2.2,q.1⟩,q.2)):=by
   show _=_
   rw[<-hM.out,FP,qr,qk.out]
  clear qr ht hM
  rintro e w2 ⟨⟨wb,wc,rfl,_,hy,qD,qE,⟨q0,WB⟩,D2⟩,hB⟩
  obtain⟨c1,z1⟩:=hy 0 xa rfl
  obtain⟨c2,z2⟩:=hy 1 xf rfl
  obtain⟨c3,z3⟩:=hy 2 xn rfl
  simp only[Zq,Nat.reduceAdd] at c1 c2 c3
  clear hy
  have G2:=G0.grown hB hrb
  have hr:=A5 (BT (row:=some rb) hX) hB (fun k e=>by cases e;exact .inr rfl)
  replace QB:=QB.grown hB (by simp;omega)
  have qT:w.heap.size<w2.heap.size:=QB.lt
  clear hB D0 G0 hX
  go_upto_region 2 with fail
  have hs:∀ u,Below w2.heap.size w2 u->(fun u=>u.cell? ⟨wb,1,none⟩=some (.string (bA xa))∧u.cell? ⟨wb,2,none⟩=some (.string (bA xf))∧u.cell? ⟨wb,3,none⟩=some (.string (bA xn))) u:=fun u hu=>⟨Ab hu c1,Ab hu c2,Ab hu c3⟩
  refine Er (fun u=>u.cell? ⟨wb,1,none⟩=some (.string (bA xa))∧u.cell? ⟨wb,2,none⟩=some (.string (bA xf))∧u.cell? ⟨wb,3,none⟩=some (.string (bA xn))) 14 [8,9,10,11,12,13,14,15,16,17,18,19,4] (fun x u=>∃ vb n1 fb,numP xa=some n1∧x 4=.pointer (some ⟨vb,0,none⟩)∧Cd xn=some fb∧Blk u vb #[.int .i64 n1,.string (bA xf),.bool fb,.slice none 0 0] tV∧Below w2.heap.size w2 u∧w2.heap.size<=vb) (fun c u=>(∃ tp pe,c=[{v:=.iface tp pe,recovered:=false}])∧Below w2.heap.size w2 u∧(numP xa=none∨Cd xn=none)) (by kernel_rfl) rfl ?walk2 ?rest2 ?pan2
  case walk2=>
    have hh:Below w2.heap.size w2 w2.drew:=(Yg _ _).drew
    generalize w2.drew=WD at hh ⊢
    have qy:=hs WD hh
    refine tkp 0 ?_
    refine tkp 1 ?_
    refine tkp 2 ?_
    refine tkp 4 ?_
    refine tkp 5 ?_
    refine tkp 6 ?_
    refine tkp 7 ?_
    refine tkp 8 ?_
    refine tkp 9 ?_
    refine G7 (i:=3) (j:=12) (by kernel_rfl) rfl rfl (fun K hK=>?_) (fun K hK=>?_)
    ·skip
     go_simp
     refine (As (bA xa) _ (by omega) (G2.below hh)).mono ?_
     rw[Af]
     rintro e u1 ⟨hm,hb⟩
     have hv:=Aa hh hb
     try replace FB:=FB.below hb
     clear hb
     cases hz:numP xa with
     |none=>
      rw[hz] at hm
      obtain⟨tp,pe,rfl⟩:=hm
      exact⟨rfl,⟨tp,pe,rfl⟩,hv,(by first | rfl | exact .inl rfl | exact .inr rfl | exact .inl hz | exact .inr hz)⟩
     |some n1=>
      rw[hz] at hm
      subst hm
      dsimp only
      refine hK.out _ _ (hs u1 hv) (fun hHeld=>?_)
      clear hK K
      try simp only[Act.put,Yj,Yq,Yr]
      refine G7 (i:=10) (j:=12) (by kernel_rfl) rfl rfl (fun K hK=>?_) (fun K hK=>?_)
      ·skip
       go_simp
       refine (Dp (bA xn) _ (G2.below hv)).mono ?_
       rw[Af]
       rintro e uu ⟨hm,hu⟩
       obtain rfl:u1=uu:=hu.symm
       cases hj:Cd xn with
       |none=>
        rw[hj] at hm
        obtain⟨tp,pe,rfl⟩:=hm
        exact⟨rfl,⟨tp,pe,rfl⟩,hv,(by first | rfl | exact .inl rfl | exact .inr rfl | exact .inl hj | exact .inr hj)⟩
       |some fb=>
        rw[hj] at hm
        subst hm
        dsimp only
        refine hK.out _ _ (hs u1 hv) (fun hHeld=>?_)
        clear hK K
        try simp only[Act.put,Yj,Yq,Yr]
        refine tkp 11 ?_
        refine Aq (i:=12) (by kernel_rfl) rfl (fun K hK=>?_)
        go_simp
        have hH:Below u1.heap.size u1 (u1.alloc (.cells #[.int .i64 0,.string ⟨#[]⟩,.bool false,.slice none 0 0] tV)):=(Yg _ _).alloc (Zd _) _
        obtain⟨ob,he⟩:∃ ob,ob=u1.heap.size:=⟨_,rfl⟩
        have FB:Blk (u1.alloc (.cells #[.int .i64 0,.string ⟨#[]⟩,.bool false,.slice none 0 0] tV)) ob #[.int .i64 0,.string ⟨#[]⟩,.bool false,.slice none 0 0] tV:=Blk.new' _ _ _ _ he
        have hA:Hid (w2.heap.size<=ob):=by show _<=_;rw[he];exact hv.size
        rw[<-he]
        clear he
        have hp:=Aa hv hH
        clear hH
        refine hK.out _ _ (hs _ hp) (fun hHeld=>?_)
        clear hK K
        try simp only[Act.put,Yj,Yq,Yr]
        generalize u1.alloc (.cells #[.int .i64 0,.string ⟨#[]⟩,.bool false,.slice none 0 0] tV)=u2 at *
        obtain⟨t0,t1,t2,t3⟩:=JS FB
        have s0:=FB.frozen 0
        have s1:=FB.frozen 1
        have s2:=FB.frozen 2
        have s3:=FB.frozen 3
        refine Aq (i:=13) (by kernel_rfl) rfl (fun K hK=>?_)
        go_simp
        obtain⟨F9,hC⟩:=Jl FB (.int .i64 n1) (.string (bA xf)) (.bool fb) (.slice none 0 0)
        have hF:=ao_ hp hC hA.out
        refine hK.out _ _ (hs _ hF) (fun hHeld=>?_)
        clear hK K
        try simp only[Act.put,Yj,Yq,Yr]
        refine wpAnyH_done (by kernel_rfl) ?_ _
        refine Cf (by simp only[B3,YE,List.foldl_nil,Act.put,Act.eval,Yj,Yq,Yr,Array.getD_eq_getD_getElem?,Yp,Yt,Yo,Yw]) ?_
        exact⟨ob,n1,fb,(by first | rfl | assumption),(by simp only[Act.eval,Array.getD_eq_getD_getElem?,Yp,Yt,Yo,Yw]),(by first | rfl | assumption),F9,hF,hA.out⟩
      ·skip
       go_simp
       have hH:Below u1.heap.size u1 (u1.alloc (.cells #[.int .i64 0,.string ⟨#[]⟩,.bool false,.slice none 0 0] tV)):=(Yg _ _).alloc (Zd _) _
       obtain⟨ob,he⟩:∃ ob,ob=u1.heap.size:=⟨_,rfl⟩
       have FB:Blk (u1.alloc (.cells #[.int .i64 0,.string ⟨#[]⟩,.bool false,.slice none 0 0] tV)) ob #[.int .i64 0,.string ⟨#[]⟩,.bool false,.slice none 0 0] tV:=Blk.new' _ _ _ _ he
       have hA:Hid (w2.heap.size<=ob):=by show _<=_;rw[he];exact hv.size
       rw[<-he]
       clear he
       have hp:=Aa hv hH
       clear hH
       refine hK.out _ _ (hs _ hp) (fun hHeld=>?_)
       clear hK K
       try simp only[Act.put,Yj,Yq,Yr]
       generalize u1.alloc (.cells #[.int .i64 0,.string ⟨#[]⟩,.bool false,.slice none 0 0] tV)=u2 at *
       refine Aq (i:=10) (by kernel_rfl) rfl (fun K hK=>?_)
       go_simp
       refine (Dp (bA xn) _ (G2.below hp)).mono ?_
       rw[Af]
       rintro e uu ⟨hm,hu⟩
       obtain rfl:u2=uu:=hu.symm
       cases hj:Cd xn with
       |none=>
        rw[hj] at hm
        obtain⟨tp,pe,rfl⟩:=hm
        exact⟨rfl,⟨tp,pe,rfl⟩,hp,(by first | rfl | exact .inl rfl | exact .inr rfl | exact .inl hj | exact .inr hj)⟩
       |some fb=>
        rw[hj] at hm
        subst hm
        dsimp only
        refine hK.out _ _ (hs u2 hp) (fun hHeld=>?_)
        clear hK K
        try simp only[Act.put,Yj,Yq,Yr]
        refine tkp 11 ?_
        obtain⟨t0,t1,t2,t3⟩:=JS FB
        have s0:=FB.frozen 0
        have s1:=FB.frozen 1
        have s2:=FB.frozen 2
        have s3:=FB.frozen 3
        refine Aq (i:=13) (by kernel_rfl) rfl (fun K hK=>?_)
        go_simp
        obtain⟨F9,hC⟩:=Jl FB (.int .i64 n1) (.string (bA xf)) (.bool fb) (.slice none 0 0)
        have hF:=ao_ hp hC hA.out
        refine hK.out _ _ (hs _ hF) (fun hHeld=>?_)
        clear hK K
        try simp only[Act.put,Yj,Yq,Yr]
        refine wpAnyH_done (by kernel_rfl) ?_ _
        refine Cf (by simp only[B3,YE,List.foldl_nil,Act.put,Act.eval,Yj,Yq,Yr,Array.getD_eq_getD_getElem?,Yp,Yt,Yo,Yw]) ?_
        exact⟨ob,n1,fb,(by first | rfl | assumption),(by simp only[Act.eval,Array.getD_eq_getD_getElem?,Yp,Yt,Yo,Yw]),(by first | rfl | assumption),F9,hF,hA.out⟩
    ·skip
     go_simp
     have hH:Below WD.heap.size WD (WD.alloc (.cells #[.int .i64 0,.string ⟨#[]⟩,.bool false,.slice none 0 0] tV)):=(Yg _ _).alloc (Zd _) _
     obtain⟨ob,he⟩:∃ ob,ob=WD.heap.size:=⟨_,rfl⟩
     have FB:Blk (WD.alloc (.cells #[.int .i64 0,.string ⟨#[]⟩,.bool false,.slice none 0 0] tV)) ob #[.int .i64 0,.string ⟨#[]⟩,.bool false,.slice none 0 0] tV:=Blk.new' _ _ _ _ he
     have hA:Hid (w2.heap.size<=ob):=by show _<=_;rw[he];exact hh.size
     rw[<-he]
     clear he
     have hv:=Aa hh hH
     clear hH
     refine hK.out _ _ (hs _ hv) (fun hHeld=>?_)
     clear hK K
     try simp only[Act.put,Yj,Yq,Yr]
     generalize WD.alloc (.cells #[.int .i64 0,.string ⟨#[]⟩,.bool false,.slice none 0 0] tV)=u1 at *
     refine Aq (i:=3) (by kernel_rfl) rfl (fun K hK=>?_)
     go_simp
     refine (As (bA xa) _ (by omega) (G2.below hv)).mono ?_
     rw[Af]
     rintro e u2 ⟨hm,hb⟩
     have hp:=Aa hv hb
     try replace FB:=FB.below hb
     clear hb
     cases hz:numP xa with
     |none=>
      rw[hz] at hm
      obtain⟨tp,pe,rfl⟩:=hm
      exact⟨rfl,⟨tp,pe,rfl⟩,hp,(by first | rfl | exact .inl rfl | exact .inr rfl | exact .inl hz | exact .inr hz)⟩
     |some n1=>
      rw[hz] at hm
      subst hm
      dsimp only
      refine hK.out _ _ (hs u2 hp) (fun hHeld=>?_)
      clear hK K
      try simp only[Act.put,Yj,Yq,Yr]
      refine Aq (i:=10) (by kernel_rfl) rfl (fun K hK=>?_)
      go_simp
      refine (Dp (bA xn) _ (G2.below hp)).mono ?_
      rw[Af]
      rintro e uu ⟨hm,hu⟩
      obtain rfl:u2=uu:=hu.symm
      cases hj:Cd xn with
      |none=>
       rw[hj] at hm
       obtain⟨tp,pe,rfl⟩:=hm
       exact⟨rfl,⟨tp,pe,rfl⟩,hp,(by first | rfl | exact .inl rfl | exact .inr rfl | exact .inl hj | exact .inr hj)⟩
      |some fb=>
       rw[hj] at hm
       subst hm
       dsimp only
       refine hK.out _ _ (hs u2 hp) (fun hHeld=>?_)
       clear hK K
       try simp only[Act.put,Yj,Yq,Yr]
       refine tkp 11 ?_
       obtain⟨t0,t1,t2,t3⟩:=JS FB
       have s0:=FB.frozen 0
       have s1:=FB.frozen 1
       have s2:=FB.frozen 2
       have s3:=FB.frozen 3
       refine Aq (i:=13) (by kernel_rfl) rfl (fun K hK=>?_)
       go_simp
       obtain⟨F9,hC⟩:=Jl FB (.int .i64 n1) (.string (bA xf)) (.bool fb) (.slice none 0 0)
       have hF:=ao_ hp hC hA.out
       refine hK.out _ _ (hs _ hF) (fun hHeld=>?_)
       clear hK K
       try simp only[Act.put,Yj,Yq,Yr]
       refine wpAnyH_done (by kernel_rfl) ?_ _
       refine Cf (by simp only[B3,YE,List.foldl_nil,Act.put,Act.eval,Yj,Yq,Yr,Array.getD_eq_getD_getElem?,Yp,Yt,Yo,Yw]) ?_
       exact⟨ob,n1,fb,(by first | rfl | assumption),(by simp only[Act.eval,Array.getD_eq_getD_getElem?,Yp,Yt,Yo,Yw]),(by first | rfl | assumption),F9,hF,hA.out⟩
  case pan2=>
   rintro c a' u hd ⟨⟨tp,pe,rfl⟩,hU,qC⟩
   have hc:M=none:=by
    rw[h3.out]
    rcases qC with h | h
    ·rw[h];rfl
    ·rw[h];cases numP xa<;>rfl
   subst hc
   go_wp2
   exact⟨hd,⟨tp,pe,rfl⟩,Bv hr hU⟩
  case rest2=>
   rintro x u ⟨vb,n1,fb,hz,e4,hj,VB,hU,qW⟩
   rw[hz,hj] at h3
   have hS:Hid (M=I.map fun q=>(⟨n1,bA xf,fb,q.1⟩,q.2)):=h3.out
   simp only[B3,YE,List.foldl_nil,e4]
   try simp only[Act.put,Yj,Yq,Yr]
   generalize x 8=s8;generalize x 9=s9;generalize x 10=s10;generalize x 11=s11;generalize x 12=s12;generalize x 13=s13;generalize x 14=s14;generalize x 15=s15;generalize x 16=s16;generalize x 17=s17;generalize x 18=s18;generalize x 19=s19
   clear e4 x h3
   replace D2:=D2.below hU
   replace QB:=QB.below hU
   replace hr:=Bv hr hU
   have qV:=hU.size
   clear c1 c2 c3 hs hz hj hU G2 WB
   generalize bA xf=nm at *
   go_wp2_with fail
   go_loopw [3] (fun _ wr=>∃ (its:List It) (irs:List IQ) (rest:List By) (ia:Option Addr) (inn ic:Nat),Blk wr vb #[.int .i64 n1,.string nm,.bool fb,.slice ia inn ic] tV∧Blk wr w.heap.size #[.int .i64 0,.string ⟨#[]⟩,.bool false,.slice none 0 0] tV∧Ad IQ.cs 2 tI wr w.heap.size ia inn ic irs∧Al2 (ItR wr w.heap.size) irs its∧(irs.filterMap fun x=>CF x.a).Nodup∧CK wr rb rest∧inn+rest.length<=60000∧Hid (I=(itemsP rest.length rest).map fun q=>(its++q.1,q.2))∧w.grownBy wr (some rb)) (fun _ wr=>lnV (wr.cell? ⟨rb,0,none⟩))
   case atStart=>exact⟨[],[],r,none,0,0,VB,QB,aB_,.nil,List.nodup_nil,D2,by omega,by show _=_;rw[<-qk.out];cases itemsP r.length r<;>rfl,hr⟩
   case round=>
    clear VB QB D2 hr
    obtain⟨its,irs,rest,ia,inn,ic,VB,QB,RI,IL,hN,D,hn,hI,hr⟩:=hrel
    have G:=hG.grown hr hrb
    have qK:=hr.size
    have qa:=Cq rb rest ⟨#[102,105,108,101]⟩ wr D (by decide)
    rw[show (⟨#[102,105,108,101]⟩:ByteArray).data.toList=Bz from rfl] at qa
    go_wp2_with fail
    refine qa.mono ?_
    rintro e w1 ⟨rfl,qj⟩
    obtain rfl:wr=w1:=qj.symm
    clear qa
    cases hD:ahL Bz rest with
    |false=>
     have hZ:I=some (its,rest):=by rw[hI.out,J1 hD];simp
     subst hZ
     have hc:M=some (⟨n1,nm,fb,its⟩,rest):=hS.out
     subst hc
     obtain⟨v0,v1,v2,v3⟩:=JS VB
     obtain⟨r0,r1,r2,r3⟩:=JS QB
     have g0:=QB.frozen 0
     have g1:=QB.frozen 1
     have g2:=QB.frozen 2
     have g3:=QB.frozen 3
     go_wp2
     obtain⟨F9,hC⟩:=Jl QB (.int .i64 n1) (.string nm) (.bool fb) (.slice ia inn ic)
     have hq:=aa_ QB
     have qv:=RI.ty hC hq (by decide)
     have IL9:Al2 (ItR _ w.heap.size) irs its:=IL.imp fun _ _ _ h=>h.ty hC hq (by decide)
     have D9:=D.ty hC hq (by decide) (by decide)
     have hO:=A5 hr hC (fun k e=>by cases e;exact .inl (Zd _))
     generalize (((wr.setCell ⟨w.heap.size,0,none⟩ (.int .i64 n1)).setCell ⟨w.heap.size,1,none⟩ (.string nm)).setCell ⟨w.heap.size,2,none⟩ (.bool fb)).setCell ⟨w.heap.size,3,none⟩ (.slice ia inn ic)=W8 at *
     refine YW (results_cell_row rfl _ W8 w.heap.size _ _ _ _ rfl F9 underlying80 rfl (by kernel_rfl)) rfl ?_
     exact⟨⟨_,rfl,⟨ia,inn,ic,irs,rfl,qv,IL9,hN⟩,D9⟩,hO⟩
    |true=>
     cases rest with
     |nil=>cases hD
     |cons l2 r2=>
      have h9:ahP Bz l2=true:=hD
      have q:=CZ rb (l2::r2) ⟨#[102,105,108,101]⟩ 1 wr D G hrb (by decide) (by omega) (by omega)
      rw[show (⟨#[102,105,108,101]⟩:ByteArray).data.toList=Bz from rfl] at q
      simp only[Zw] at hn
      have h0:=hI.out
      rw[IE h9] at h0
      cases ht:Ck Bz 1 (l2::r2) with
      |none=>
       rw[ht] at q
       rw[LG h9 ht] at h0
       have hZ:I=none:=h0
       subst hZ
       have hc:M=none:=hS.out
       subst hc
       go_wp2_with fail
       refine q.mono ?_
       rintro e w2 ⟨⟨tp,pe,rfl⟩,hB⟩
       go_wp2
       exact⟨rfl,⟨tp,pe,rfl⟩,A5 hr hB (fun k e=>by cases e;exact .inr rfl)⟩
      |some qq=>
       rw[ht] at q
       obtain⟨xi,rfl,hA⟩:=LH h9 ht
       obtain⟨N,ql⟩:∃ N,Hid (manyP partK ptP r2=N):=⟨_,rfl⟩
       have hY:Hid (I=N.bind fun q=>(itemsP q.2.length q.2).map fun s=>(its++(⟨bA xi,q.1⟩:It)::s.1,s.2)):=by
        show _=_
        rw[h0,hA,ql.out]
        cases N with
        |none=>rfl
        |some q=>simp only[YO];cases itemsP q.2.length q.2<;>rfl
       clear h0 hA ht hI hD
       go_wp2_with fail
       refine q.mono ?_
       rintro e w3 ⟨⟨qX,qY,rfl,_,hy,qF,qG,_,D3⟩,qc⟩
       obtain⟨c1,zi⟩:=hy 0 xi rfl
       simp only[Zq] at c1
       clear hy q
       go_wp2_with fail
       obtain⟨wo,rfl⟩:∃ x,x=wr:=⟨_,rfl⟩
       have h6:Below w3.heap.size w3 (w3.alloc (.cells #[.string (bA xi),.slice none 0 0] tI)):=(Yg _ _).alloc (Zd _) _
       obtain⟨xb,h5⟩:∃ xb,xb=w3.heap.size:=⟨_,rfl⟩
       have XB:Blk (w3.alloc (.cells #[.string (bA xi),.slice none 0 0] tI)) xb #[.string (bA xi),.slice none 0 0] tI:=Blk.new' _ _ _ _ h5
       have qL:wo.heap.size<=xb:=by rw[h5];exact qc.size
       rw[<-h5]
       clear h5
       replace D3:=D3.below h6
       have qm:=Bv qc h6
       generalize w3.alloc (.cells #[.string (bA xi),.slice none 0 0] tI)=W4 at *
       clear h6 qc c1 G
       generalize bA xi=inm at *
       have qs:=D
       clear D
       go_loopw [3] (fun _ wr=>∃ (ps:List Pt) (rest2:List By) (pa:Option Addr) (pn pc:Nat),Blk wr xb #[.string inm,.slice pa pn pc] tI∧Ad Pt.cs 3 tP wr wo.heap.size pa pn pc ps∧CK wr rb rest2∧pn+rest2.length<=r2.length∧Hid (N=(manyP partK ptP rest2).map fun q=>(ps++q.1,q.2))∧wo.grownBy wr (some rb)) (fun _ wr=>lnV (wr.cell? ⟨rb,0,none⟩))
       case atStart=>exact⟨[],r2,none,0,0,XB,aB_,D3,by omega,by show _=_;rw[<-ql.out];cases manyP partK ptP r2<;>rfl,qm⟩
       case round=>
        clear XB D3 qm
        obtain⟨ps,rest2,pa,pn,pc,XB,R5,D5,qB,h7,hf⟩:=hrel
        have hx:=A5 hr hf (fun k e=>by cases e;exact .inr rfl)
        have G5:=hG.grown hx hrb
        have qU:=hf.size
        have qa:=Cq rb rest2 ⟨#[112,97,114,116]⟩ wr D5 (by decide)
        rw[show (⟨#[112,97,114,116]⟩:ByteArray).data.toList=partK from rfl] at qa
        go_wp2_with fail
        refine qa.mono ?_
        rintro e w1 ⟨rfl,qj⟩
        obtain rfl:wr=w1:=qj.symm
        clear qa
        cases hD:ahL partK rest2 with
        |false=>
         have h8:N=some (ps,rest2):=by rw[h7.out,Fy _ _ hD];simp
         have qw:Hid (I=(itemsP rest2.length rest2).map fun q=>((its++[(⟨inm,ps⟩:It)])++q.1,q.2)):=by
          show _=_
          rw[hY.out,h8]
          simp
         have qh:=F0 IL
         replace VB:=VB.grown hf (by simp;omega)
         replace QB:=QB.grown hf (by simp;omega)
         replace RI:=RI.offB hf qn
         replace IL:Al2 (ItR wr w.heap.size) irs its:=IL.imp fun _ _ _ h=>h.offB hf qn
         obtain⟨v0,v1,v2,v3⟩:=JS VB
         have x0:wr.cell? ⟨xb,0,none⟩=some (.string inm):=XB.cell 0
         have x1:wr.cell? ⟨xb,1,none⟩=some (.slice pa pn pc):=XB.cell 1
         have qJ:=hx.size
         have hg:Below wr.heap.size wr (wr.alloc (.cells (IQ.cs (⟨inm,pa,pn,pc⟩:IQ)).toArray tI)):=(Yg _ _).alloc (Zd _) _
         go_wp2_with (at_builtin;refine ag_ rfl (fun K hK=>mX_ _ _ 78 rfl w.heap.size tI i0 (.agg #[.string .empty,.slice none 0 0]) 40 underlying78 qz qP qQ qR rfl (by decide) Fb KN ia inn ic _ rfl (RI.alloc _) _ 1 1 [(⟨inm,pa,pn,pc⟩:IQ)] rfl (Ci Fb _ (⟨inm,pa,pn,pc⟩:IQ) _ _ rfl) (fun ad h=>(by cases h;rfl)) (fun h=>(by cases h)) (inn+1) rfl (by unfold maxLen;omega) (by omega) (by simp;omega) (fun a4 cap4 w4 R4 hw qb=>hK _ _ (GI.out ?_))))
         refine GI.mk ?_
         have hq:=(RI.below hg).rowTy (m:=inn) (k:=ic)
         have h2:=(VB.below hg).ty hw hq (by decide)
         have qu:=(QB.below hg).ty hw hq (by decide)
         have D6:=(D5.below hg).ty hw hq (by decide) (by decide)
         have IL5:Al2 (ItR w4 w.heap.size) irs its:=IL.imp fun _ _ _ h=>(h.below hg).ty hw hq (by decide)
         have P5:=((R5.mono qK).below hg).ty hw hq (by decide)
         have NN:((irs++[(⟨inm,pa,pn,pc⟩:IQ)]).filterMap fun x=>CF x.a).Nodup:=by
          rw[EY]
          refine EE (o:=none) (H:=wo.heap.size) (by simpa using hN) qh (fun b e=>.inr ?_)
          change CF pa=some b at e
          cases qi:pa with
          |none=>rw[qi] at e;cases e
          |some ad=>
           rw[qi] at e
           obtain rfl:=Zi e
           exact (R5.block ad qi).1
         have qf:=A5 (Bv hx hg) hw (fun k e=>.inl (Cg (fun ad e=>(RI.block ad e).1) k e))
         have p3:=h2.cell 3
         have q3:=h2.frozen 3
         clear hq hw qb hg VB QB RI IL XB R5 x0 x1 v0 v1 v2 v3 D5 hf hx G5
         go_wp2
         have hV:w4.grownBy (w4.setCell ⟨vb,3,none⟩ (.slice a4 (inn+1) cap4)) (some vb):=af_ (Yh _ _) _ _
         have h4:=aa_ h2
         have V9:Blk (w4.setCell ⟨vb,3,none⟩ (.slice a4 (inn+1) cap4)) vb #[.int .i64 n1,.string nm,.bool fb,.slice a4 (inn+1) cap4] tV:=by simpa using h2.set 3 (.slice a4 (inn+1) cap4)
         have Q9:=qu.grown hV (by simp;omega)
         have R9:=R4.ty hV h4 (by decide)
         have IL9:Al2 (ItR (w4.setCell ⟨vb,3,none⟩ (.slice a4 (inn+1) cap4)) w.heap.size) (irs++[(⟨inm,pa,pn,pc⟩:IQ)]) (its++[(⟨inm,ps⟩:It)]):=(IL5.imp fun _ _ _ h=>h.ty hV h4 (by decide)).snoc ⟨rfl,P5.ty hV h4 (by decide)⟩
         have D9:=D6.ty hV h4 (by decide) (by decide)
         have hO:=A5 qf hV (fun k e=>by cases e;exact .inl (by omega))
         generalize w4.setCell ⟨vb,3,none⟩ (.slice a4 (inn+1) cap4)=W9 at *
         go_roundw
         case rel=>exact⟨its++[(⟨inm,ps⟩:It)],irs++[(⟨inm,pa,pn,pc⟩:IQ)],rest2,a4,inn+1,cap4,V9,Q9,R9,IL9,NN,D9,by omega,qw,hO⟩
         case measure=>(rw[D9.len,qs.len];simp only[Zw];omega)
        |true=>
         cases rest2 with
         |nil=>cases hD
         |cons l3 r3=>
          have hL:ahP partK l3=true:=hD
          have q:=CZ rb (l3::r3) ⟨#[112,97,114,116]⟩ 3 wr D5 G5 hrb (by decide) (by omega) (by omega)
          rw[show (⟨#[112,97,114,116]⟩:ByteArray).data.toList=partK from rfl] at q
          simp only[Zw] at qB
          have hT:=h7.out
          rw[EC hL] at hT
          cases ht:Ck partK 3 (l3::r3) with
          |none=>
           rw[ht] at q
           rw[LS hL ht] at hT
           have h8:N=none:=hT
           subst h8
           have hZ:I=none:=hY.out
           subst hZ
           have hc:M=none:=hS.out
           subst hc
           go_wp2_with fail
           refine q.mono ?_
           rintro e w2 ⟨⟨tp,pe,rfl⟩,hB⟩
           go_wp2
           exact⟨rfl,⟨tp,pe,rfl⟩,A5 hx hB (fun k e=>by cases e;exact .inr rfl)⟩
          |some qq=>
           rw[ht] at q
           obtain⟨xp,xq,xs,rfl,qo⟩:=LT hL ht
           rw[qo] at hT
           have hJ:Hid (N=((numP xp).bind fun a=>(numP xq).bind fun f=>(numP xs).map fun n=>(⟨a,f,n⟩:Pt)).bind fun x=>(manyP partK ptP r3).map fun q=>(ps++x::q.1,q.2)):=by
            show _=_
            rw[hT]
            generalize ((numP xp).bind fun a=>(numP xq).bind fun f=>(numP xs).map fun n=>(⟨a,f,n⟩:Pt))=o
            cases o with
            |none=>rfl
            |some x=>cases manyP partK ptP r3<;>rfl
           clear hT qo h7 hD ht
           go_wp2_with fail
           refine q.mono ?_
           rintro e w5 ⟨⟨hE,qZ,rfl,_,hy,qH,qI,⟨qS,WB5⟩,D6⟩,h1⟩
           obtain⟨d1,y1⟩:=hy 0 xp rfl
           obtain⟨d2,y2⟩:=hy 1 xq rfl
           obtain⟨d3,y3⟩:=hy 2 xs rfl
           simp only[Zq,Nat.reduceAdd] at d1 d2 d3
           clear hy q
           have qt:=D5
           replace D5:=D6
           clear D6
           replace G5:=G5.grown h1 hrb
           replace XB:=XB.grown h1 (by simp;omega)
           replace R5:=R5.offB h1 (by omega)
           replace hf:=A5 hf h1 (fun k e=>by cases e;exact .inr rfl)
           clear h1 hx
           go_upto_region 7 with fail
           have hh:Below w5.heap.size w5 w5.drew:=(Yg _ _).drew
           replace d1:=Ab hh d1
           replace d2:=Ab hh d2
           replace d3:=Ab hh d3
           replace WB5:=WB5.below hh
           replace D5:=D5.below hh
           replace G5:=G5.below hh
           replace R5:=R5.below hh
           replace XB:=XB.below hh
           replace hf:=Bv hf hh
           have qy:(fun u=>u.cell? ⟨xb,1,none⟩=some (.slice pa pn pc)∧u.cell? ⟨hE,1,none⟩=some (.string (bA xp))∧u.cell? ⟨hE,2,none⟩=some (.string (bA xq))∧u.cell? ⟨hE,3,none⟩=some (.string (bA xs))) w5.drew:=⟨XB.cell 1,d1,d2,d3⟩
           refine ar_ (S:=(fun u=>u.cell? ⟨xb,1,none⟩=some (.slice pa pn pc)∧u.cell? ⟨hE,1,none⟩=some (.string (bA xp))∧u.cell? ⟨hE,2,none⟩=some (.string (bA xq))∧u.cell? ⟨hE,3,none⟩=some (.string (bA xs)))) 18 (by kernel_rfl) (by kernel_rfl) ?_
           generalize w5.drew=y0 at *
           clear hh
           refine tk 0 ?_
           refine tk 1 ?_
           refine tk 2 ?_
           refine tk 3 ?_
           refine tk 4 ?_
           refine tk 6 ?_
           refine tk 7 ?_
           refine tk 8 ?_
           refine tk 10 ?_
           refine tk 11 ?_
           refine tk 12 ?_
           refine Aq (i:=5) (by kernel_rfl) rfl (fun K hK=>?_)
           go_simp
           refine (As (bA xp) _ (by omega) G5).mono ?_
           rw[Af]
           rintro e z1 ⟨hm,hb⟩
           replace d1:=Ab hb d1
           replace d2:=Ab hb d2
           replace d3:=Ab hb d3
           replace WB5:=WB5.below hb
           replace D5:=D5.below hb
           replace G5:=G5.below hb
           replace R5:=R5.below hb
           replace XB:=XB.below hb
           replace hf:=Bv hf hb
           clear hb
           cases hP:numP xp with
           |none=>
            rw[hP] at hm hJ
            obtain⟨tp,pe,rfl⟩:=hm
            have hc:N=none:=by rw[hJ.out];first | rfl | (cases numP xp<;>rfl) | (cases numP xp<;>cases numP xq<;>rfl)
            subst hc
            have hk:I=none:=hY.out
            subst hk
            have ho:M=none:=hS.out
            subst ho
            show C8 _ _ _ _ (.panic _) _ _
            unfold C8
            go_wp2
            exact⟨rfl,⟨tp,pe,rfl⟩,A5 hr hf (fun k e=>by cases e;exact .inr rfl)⟩
           |some n1'=>
            rw[hP] at hm
            subst hm
            dsimp only
            refine hK.out _ _ ⟨XB.cell 1,d1,d2,d3⟩ (fun hHeld=>?_)
            clear hK K
            try simp only[Act.put,Yj,Yq,Yr]
            refine Aq (i:=9) (by kernel_rfl) rfl (fun K hK=>?_)
            go_simp
            refine (As (bA xq) _ (by omega) G5).mono ?_
            rw[Af]
            rintro e z2 ⟨hm,hb⟩
            replace d1:=Ab hb d1
            replace d2:=Ab hb d2
            replace d3:=Ab hb d3
            replace WB5:=WB5.below hb
            replace D5:=D5.below hb
            replace G5:=G5.below hb
            replace R5:=R5.below hb
            replace XB:=XB.below hb
            replace hf:=Bv hf hb
            clear hb
            cases hQ:numP xq with
            |none=>
             rw[hQ] at hm hJ
             obtain⟨tp,pe,rfl⟩:=hm
             have hc:N=none:=by rw[hJ.out];first | rfl | (cases numP xp<;>rfl) | (cases numP xp<;>cases numP xq<;>rfl)
             subst hc
             have hk:I=none:=hY.out
             subst hk
             have ho:M=none:=hS.out
             subst ho
             show C8 _ _ _ _ (.panic _) _ _
             unfold C8
             go_wp2
             exact⟨rfl,⟨tp,pe,rfl⟩,A5 hr hf (fun k e=>by cases e;exact .inr rfl)⟩
            |some n2'=>
             rw[hQ] at hm
             subst hm
             dsimp only
             refine hK.out _ _ ⟨XB.cell 1,d1,d2,d3⟩ (fun hHeld=>?_)
             clear hK K
             try simp only[Act.put,Yj,Yq,Yr]
             refine Aq (i:=13) (by kernel_rfl) rfl (fun K hK=>?_)
             go_simp
             refine (As (bA xs) _ (by omega) G5).mono ?_
             rw[Af]
             rintro e z3 ⟨hm,hb⟩
             replace d1:=Ab hb d1
             replace d2:=Ab hb d2
             replace d3:=Ab hb d3
             replace WB5:=WB5.below hb
             replace D5:=D5.below hb
             replace G5:=G5.below hb
             replace R5:=R5.below hb
             replace XB:=XB.below hb
             replace hf:=Bv hf hb
             clear hb
             cases hR:numP xs with
             |none=>
              rw[hR] at hm hJ
              obtain⟨tp,pe,rfl⟩:=hm
              have hc:N=none:=by rw[hJ.out];first | rfl | (cases numP xp<;>rfl) | (cases numP xp<;>cases numP xq<;>rfl)
              subst hc
              have hk:I=none:=hY.out
              subst hk
              have ho:M=none:=hS.out
              subst ho
              show C8 _ _ _ _ (.panic _) _ _
              unfold C8
              go_wp2
              exact⟨rfl,⟨tp,pe,rfl⟩,A5 hr hf (fun k e=>by cases e;exact .inr rfl)⟩
             |some n3'=>
              rw[hR] at hm
              subst hm
              dsimp only
              refine hK.out _ _ ⟨XB.cell 1,d1,d2,d3⟩ (fun hHeld=>?_)
              clear hK K
              try simp only[Act.put,Yj,Yq,Yr]
              refine tk 14 ?_
              refine Aq (i:=15) (by kernel_rfl) rfl (fun K hK=>?_)
              go_simp
              have hg:Below z3.heap.size z3 (z3.alloc (.cells (Pt.cs (⟨n1',n2',n3'⟩:Pt)).toArray tP)):=(Yg _ _).alloc (Zd _) _
              have L4:=Ci F7 z3 (⟨n1',n2',n3'⟩:Pt) tP _ rfl
              replace d1:=Ab hg d1
              replace d2:=Ab hg d2
              replace d3:=Ab hg d3
              replace WB5:=WB5.below hg
              replace D5:=D5.below hg
              replace R5:=R5.below hg
              replace XB:=XB.below hg
              replace hf:=Bv hf hg
              change K _ (z3.alloc (.cells (Pt.cs (⟨n1',n2',n3'⟩:Pt)).toArray tP))
              generalize z3.alloc (.cells (Pt.cs (⟨n1',n2',n3'⟩:Pt)).toArray tP)=z4 at *
              clear hg
              refine hK.out _ _ ⟨XB.cell 1,d1,d2,d3⟩ (fun hHeld=>?_)
              clear hK K
              try simp only[Act.put,Yj,Yq,Yr]
              refine Aq (i:=16) (by kernel_rfl) rfl (fun K hK=>?_)
              refine aJ_ rfl (mX_ _ _ 120 rfl wo.heap.size tP i1 (.agg #[.int .i64 0,.int .i64 0,.int .i64 0]) 24 underlying120 qA qM qN qO rfl (by decide) F7 cI_ pa pn pc _ rfl R5 _ 1 1 [(⟨n1',n2',n3'⟩:Pt)] rfl L4 (fun ad h=>(by cases h;rfl)) (fun h=>(by cases h)) (pn+1) rfl (by unfold maxLen;omega) (by omega) (by have:=hf.size;omega) (fun a4 cap4 w4 R4 hw qb=>?_))
              have hq:=R5.rowTy (m:=pn) (k:=pc)
              have hW:=XB.ty hw hq (by decide)
              have D6:=D5.ty hw hq (by decide) (by decide)
              have WB6:=WB5.ty hw hq (by decide)
              have e1:w4.cell? ⟨hE,1,none⟩=some (.string (bA xp)):=by rw[WB6.cell,<-WB5.cell];exact d1
              have e2:w4.cell? ⟨hE,2,none⟩=some (.string (bA xq)):=by rw[WB6.cell,<-WB5.cell];exact d2
              have e3:w4.cell? ⟨hE,3,none⟩=some (.string (bA xs)):=by rw[WB6.cell,<-WB5.cell];exact d3
              have qd:=A5 hf hw (fun k e=>.inl (Cg (fun ad e=>(R5.block ad e).1) k e))
              have qx:Hid (N=(manyP partK ptP r3).map fun q=>((ps++[(⟨n1',n2',n3'⟩:Pt)])++q.1,q.2)):=by
               show _=_
               rw[hJ.out,hP,hQ,hR]
               show (manyP partK ptP r3).map _=_
               simp
              refine hK.out _ _ ⟨hW.cell 1,e1,e2,e3⟩ (fun hHeld=>?_)
              clear hK K
              try simp only[Act.put,Yj,Yq,Yr]
              refine tk 17 ?_
              have p1:=hW.cell 1
              have q1:=hW.frozen 1
              clear hq hw qb XB R5 D5 WB5 WB6 d1 d2 d3 e1 e2 e3 hf L4 G5 hHeld
              refine wpAnyH_done (by kernel_rfl) ?_ _
              refine lastL rfl ?_
              go_wp2
              have qg:w4.grownBy (w4.setCell ⟨xb,1,none⟩ (.slice a4 (pn+1) cap4)) (some xb):=af_ (Yh _ _) _ _
              have qp:=aa_ hW
              have X9:Blk (w4.setCell ⟨xb,1,none⟩ (.slice a4 (pn+1) cap4)) xb #[.string inm,.slice a4 (pn+1) cap4] tI:=by simpa using hW.set 1 (.slice a4 (pn+1) cap4)
              have R9:=R4.ty qg qp (by decide)
              have D9:=D6.ty qg qp (by decide) (by decide)
              have qe:=A5 qd qg (fun k e=>by cases e;exact .inl qL)
              generalize w4.setCell ⟨xb,1,none⟩ (.slice a4 (pn+1) cap4)=W9 at *
              go_roundw
              case rel=>exact⟨ps++[(⟨n1',n2',n3'⟩:Pt)],r3,a4,pn+1,cap4,X9,R9,D9,by omega,qx,qe⟩
              case measure=>(rw[D9.len,qt.len];simp)
end Go.Proofs.YtkiceokhlceciaaGreatDoor
