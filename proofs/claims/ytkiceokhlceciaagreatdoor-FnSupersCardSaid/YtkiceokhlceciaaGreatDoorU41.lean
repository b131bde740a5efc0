/- Texts of pools, read and written; what is drawn. -/
import Derived.Test.YtkiceokhlceciaaGreatDoorU39
import Derived.Test.YtkiceokhlceciaaGreatDoorU40
set_option maxHeartbeats 20000000
set_option maxRecDepth 100000
namespace Go.Proofs.YtkiceokhlceciaaGreatDoor
open Go Go.RowKit Go.BigFrame Tryz
theorem ID (rb:Nat)(ls:List By)(w:World)(h:CK w rb ls)(hG:Glb w)(hrb:9<=rb)(hl:ls.length<=60000) :
  Calls prog 49 #[.pointer (some ⟨rb,0,none⟩)] w fun e w'=>(match Ea ls with
   |none=>Pan e
   |some q=>∃ v,e=.returned v∧AE w.heap.size w' v q.1∧CK w' rb q.2)∧w.grownBy w' (some rb):=by
 obtain⟨M,hM⟩:∃ M,Hid (Ea ls=M):=⟨_,rfl⟩
 rw[hM.out]
 have hH:=h.lt
 obtain⟨i0,qI,qU,qV,qu⟩:=info_parts L9
 obtain⟨i1,qJ,qR,qS,qT⟩:=info_parts Mc
 have h4:Below w.heap.size w (w.alloc (.cells #[.int .i64 0,.int .i64 0,.slice none 0 0,.slice none 0 0,.slice none 0 0,.slice none 0 0] tPo)):=(Yg _ _).alloc (Zd _) _
 have QB:=Blk.new w #[.int .i64 0,.int .i64 0,.slice none 0 0,.slice none 0 0,.slice none 0 0,.slice none 0 0] tPo
 have D0:=h.below h4
 have G0:=hG.below h4
 have q:=CZ rb ls ⟨#[112,111,111,108]⟩ 2 _ D0 G0 hrb (by decide) (by omega) (by omega)
 rw[show (⟨#[112,111,111,108]⟩:ByteArray).data.toList=BA from rfl] at q
 go_enter func49,ntmps49
 go_wp2_with fail
 generalize w.alloc (.cells #[.int .i64 0,.int .i64 0,.slice none 0 0,.slice none 0 0,.slice none 0 0,.slice none 0 0] tPo)=W0 at *
 refine q.mono ?_
 clear q
 cases ht:Ck BA 2 ls with
 |none=>
  rintro e w2 ⟨⟨tp,pe,rfl⟩,hR⟩
  have he:M=none:=by rw[<-hM.out,IM ht]
  subst he
  go_wp2
  exact⟨rfl,⟨tp,pe,rfl⟩,A5 (BT h4) hR (fun k e=>by cases e;exact .inr rfl)⟩
 |some qq=>
  obtain⟨l,r,xa,xn,rfl,rfl,qA⟩:=IN ht
  obtain⟨X,qj⟩:∃ X,Hid (manyP exK exP r=X):=⟨_,rfl⟩
  have h9:Hid (M=((numP xa).bind fun a=>(numP xn).map fun b=>(a,b)).bind fun h=>X.bind fun x=>fV h.1 h.2 x.1 x.2):=by
   show _=_
   rw[<-hM.out,qA,qj.out]
  clear qA ht hM
  simp only[Zw] at hl
  rintro e w2 ⟨⟨wb,wc,rfl,_,hS,qN,qO,⟨q2,WB⟩,D2⟩,hR⟩
  obtain⟨c1,z1⟩:=hS 0 xa rfl
  obtain⟨c2,z2⟩:=hS 1 xn rfl
  simp only[Zq,Nat.reduceAdd] at c1 c2
  clear hS
  have G2:=G0.grown hR hrb
  have hc:=A5 (BT (row:=some rb) h4) hR (fun k e=>by cases e;exact .inr rfl)
  replace QB:=QB.grown hR (by simp;omega)
  have qY:w.heap.size<w2.heap.size:=QB.lt
  clear hR D0 G0 h4
  go_upto_region 2 with fail
  have hz:∀ u,Below w2.heap.size w2 u->(fun u=>u.cell? ⟨wb,1,none⟩=some (.string (bA xa))∧u.cell? ⟨wb,2,none⟩=some (.string (bA xn))) u:=fun u hu=>⟨Ab hu c1,Ab hu c2⟩
  refine Er (fun u=>u.cell? ⟨wb,1,none⟩=some (.string (bA xa))∧u.cell? ⟨wb,2,none⟩=some (.string (bA xn))) 11 [7,8,9,10,11,12,13,14,15,4] (fun x u=>∃ pb n1 n2,numP xa=some n1∧x 4=.pointer (some ⟨pb,0,none⟩)∧numP xn=some n2∧Blk u pb #[.int .i64 n1,.int .i64 n2,.slice none 0 0,.slice none 0 0,.slice none 0 0,.slice none 0 0] tPo∧Below w2.heap.size w2 u∧w2.heap.size<=pb) (fun c u=>(∃ tp pe,c=[{v:=.iface tp pe,recovered:=false}])∧Below w2.heap.size w2 u∧(numP xa=none∨numP xn=none)) (by kernel_rfl) rfl ?walk2 ?rest2 ?pan2
  case walk2=>
   have hk:Below w2.heap.size w2 w2.drew:=(Yg _ _).drew
   generalize w2.drew=WD at hk ⊢
   have qx:=hz WD hk
   refine tkp 0 ?_
   refine tkp 1 ?_
   refine tkp 2 ?_
   refine tkp 4 ?_
   refine tkp 5 ?_
   refine tkp 6 ?_
   refine G7 (i:=3) (j:=9) (by kernel_rfl) rfl rfl (fun K hK=>?_) (fun K hK=>?_)
   ·skip
    go_simp
    refine (As (bA xa) _ (by omega) (G2.below hk)).mono ?_
    rw[Af]
    rintro e u1 ⟨hm,hb⟩
    have hI:=Aa hk hb
    try replace FB:=FB.below hb
    clear hb
    cases hB:numP xa with
    |none=>
     rw[hB] at hm
     obtain⟨tp,pe,rfl⟩:=hm
     exact⟨rfl,⟨tp,pe,rfl⟩,hI,(by first | exact .inl hB | rfl | exact .inl rfl)⟩
    |some n1=>
     rw[hB] at hm
     subst hm
     dsimp only
     refine hK.out _ _ (hz u1 hI) (fun hHeld=>?_)
     clear hK K
     try simp only[Act.put,Yj,Yq,Yr]
     refine G7 (i:=7) (j:=9) (by kernel_rfl) rfl rfl (fun K hK=>?_) (fun K hK=>?_)
     ·skip
      go_simp
      refine (As (bA xn) _ (by omega) (G2.below hI)).mono ?_
      rw[Af]
      rintro e u2 ⟨hm,hb⟩
      have hA:=Aa hI hb
      try replace FB:=FB.below hb
      clear hb
      cases hq:numP xn with
      |none=>
       rw[hq] at hm
       obtain⟨tp,pe,rfl⟩:=hm
       exact⟨rfl,⟨tp,pe,rfl⟩,hA,(by first | exact .inr hq | rfl | exact .inr rfl)⟩
      |some n2=>
       rw[hq] at hm
       subst hm
       dsimp only
       refine hK.out _ _ (hz u2 hA) (fun hHeld=>?_)
       clear hK K
       try simp only[Act.put,Yj,Yq,Yr]
       refine tkp 8 ?_
       refine Aq (i:=9) (by kernel_rfl) rfl (fun K hK=>?_)
       go_simp
       have hP:Below u2.heap.size u2 (u2.alloc (.cells #[.int .i64 0,.int .i64 0,.slice none 0 0,.slice none 0 0,.slice none 0 0,.slice none 0 0] tPo)):=(Yg _ _).alloc (Zd _) _
       obtain⟨ob,hj⟩:∃ ob,ob=u2.heap.size:=⟨_,rfl⟩
       have FB:Blk (u2.alloc (.cells #[.int .i64 0,.int .i64 0,.slice none 0 0,.slice none 0 0,.slice none 0 0,.slice none 0 0] tPo)) ob #[.int .i64 0,.int .i64 0,.slice none 0 0,.slice none 0 0,.slice none 0 0,.slice none 0 0] tPo:=Blk.new' _ _ _ _ hj
       have hQ:Hid (w2.heap.size<=ob):=by show _<=_;rw[hj];exact hA.size
       rw[<-hj]
       clear hj
       have hJ:=Aa hA hP
       clear hP
       refine hK.out _ _ (hz _ hJ) (fun hHeld=>?_)
       clear hK K
       try simp only[Act.put,Yj,Yq,Yr]
       generalize u2.alloc (.cells #[.int .i64 0,.int .i64 0,.slice none 0 0,.slice none 0 0,.slice none 0 0,.slice none 0 0] tPo)=u3 at *
       obtain⟨t0,t1,t2,t3,t4,t5⟩:=Hi FB
       have s0:=FB.frozen 0
       have s1:=FB.frozen 1
       have s2:=FB.frozen 2
       have s3:=FB.frozen 3
       have s4:=FB.frozen 4
       have s5:=FB.frozen 5
       refine Aq (i:=10) (by kernel_rfl) rfl (fun K hK=>?_)
       go_simp
       obtain⟨F9,hL⟩:=FM FB (.int .i64 n1) (.int .i64 n2) (.slice none 0 0) (.slice none 0 0) (.slice none 0 0) (.slice none 0 0)
       have hN:=ao_ hJ hL hQ.out
       refine hK.out _ _ (hz _ hN) (fun hHeld=>?_)
       clear hK K
       try simp only[Act.put,Yj,Yq,Yr]
       refine wpAnyH_done (by kernel_rfl) ?_ _
       refine Cf (by simp only[B3,YE,List.foldl_nil,Act.put,Act.eval,Yj,Yq,Yr,Array.getD_eq_getD_getElem?,Yp,Yt,Yo,Yw]) ?_
       exact⟨ob,n1,n2,(by first | exact hB | rfl),(by simp only[Act.eval,Array.getD_eq_getD_getElem?,Yp,Yt,Yo,Yw]),(by first | exact hq | rfl),F9,hN,hQ.out⟩
     ·skip
      go_simp
      have hP:Below u1.heap.size u1 (u1.alloc (.cells #[.int .i64 0,.int .i64 0,.slice none 0 0,.slice none 0 0,.slice none 0 0,.slice none 0 0] tPo)):=(Yg _ _).alloc (Zd _) _
      obtain⟨ob,hj⟩:∃ ob,ob=u1.heap.size:=⟨_,rfl⟩
      have FB:Blk (u1.alloc (.cells #[.int .i64 0,.int .i64 0,.slice none 0 0,.slice none 0 0,.slice none 0 0,.slice none 0 0] tPo)) ob #[.int .i64 0,.int .i64 0,.slice none 0 0,.slice none 0 0,.slice none 0 0,.slice none 0 0] tPo:=Blk.new' _ _ _ _ hj
      have hQ:Hid (w2.heap.size<=ob):=by show _<=_;rw[hj];exact hI.size
      rw[<-hj]
      clear hj
      have hA:=Aa hI hP
      clear hP
      refine hK.out _ _ (hz _ hA) (fun hHeld=>?_)
      clear hK K
      try simp only[Act.put,Yj,Yq,Yr]
      generalize u1.alloc (.cells #[.int .i64 0,.int .i64 0,.slice none 0 0,.slice none 0 0,.slice none 0 0,.slice none 0 0] tPo)=u2 at *
      refine Aq (i:=7) (by kernel_rfl) rfl (fun K hK=>?_)
      go_simp
      refine (As (bA xn) _ (by omega) (G2.below hA)).mono ?_
      rw[Af]
      rintro e u3 ⟨hm,hb⟩
      have hJ:=Aa hA hb
      try replace FB:=FB.below hb
      clear hb
      cases hq:numP xn with
      |none=>
       rw[hq] at hm
       obtain⟨tp,pe,rfl⟩:=hm
       exact⟨rfl,⟨tp,pe,rfl⟩,hJ,(by first | exact .inr hq | rfl | exact .inr rfl)⟩
      |some n2=>
       rw[hq] at hm
       subst hm
       dsimp only
       refine hK.out _ _ (hz u3 hJ) (fun hHeld=>?_)
       clear hK K
       try simp only[Act.put,Yj,Yq,Yr]
       refine tkp 8 ?_
       obtain⟨t0,t1,t2,t3,t4,t5⟩:=Hi FB
       have s0:=FB.frozen 0
       have s1:=FB.frozen 1
       have s2:=FB.frozen 2
       have s3:=FB.frozen 3
       have s4:=FB.frozen 4
       have s5:=FB.frozen 5
       refine Aq (i:=10) (by kernel_rfl) rfl (fun K hK=>?_)
       go_simp
       obtain⟨F9,hL⟩:=FM FB (.int .i64 n1) (.int .i64 n2) (.slice none 0 0) (.slice none 0 0) (.slice none 0 0) (.slice none 0 0)
       have hN:=ao_ hJ hL hQ.out
       refine hK.out _ _ (hz _ hN) (fun hHeld=>?_)
       clear hK K
       try simp only[Act.put,Yj,Yq,Yr]
       refine wpAnyH_done (by kernel_rfl) ?_ _
       refine Cf (by simp only[B3,YE,List.foldl_nil,Act.put,Act.eval,Yj,Yq,Yr,Array.getD_eq_getD_getElem?,Yp,Yt,Yo,Yw]) ?_
       exact⟨ob,n1,n2,(by first | exact hB | rfl),(by simp only[Act.eval,Array.getD_eq_getD_getElem?,Yp,Yt,Yo,Yw]),(by first | exact hq | rfl),F9,hN,hQ.out⟩
   ·skip
    go_simp
    have hP:Below WD.heap.size WD (WD.alloc (.cells #[.int .i64 0,.int .i64 0,.slice none 0 0,.slice none 0 0,.slice none 0 0,.slice none 0 0] tPo)):=(Yg _ _).alloc (Zd _) _
    obtain⟨ob,hj⟩:∃ ob,ob=WD.heap.size:=⟨_,rfl⟩
    have FB:Blk (WD.alloc (.cells #[.int .i64 0,.int .i64 0,.slice none 0 0,.slice none 0 0,.slice none 0 0,.slice none 0 0] tPo)) ob #[.int .i64 0,.int .i64 0,.slice none 0 0,.slice none 0 0,.slice none 0 0,.slice none 0 0] tPo:=Blk.new' _ _ _ _ hj
    have hQ:Hid (w2.heap.size<=ob):=by show _<=_;rw[hj];exact hk.size
    rw[<-hj]
    clear hj
    have hI:=Aa hk hP
    clear hP
    refine hK.out _ _ (hz _ hI) (fun hHeld=>?_)
    clear hK K
    try simp only[Act.put,Yj,Yq,Yr]
    generalize WD.alloc (.cells #[.int .i64 0,.int .i64 0,.slice none 0 0,.slice none 0 0,.slice none 0 0,.slice none 0 0] tPo)=u1 at *
    refine Aq (i:=3) (by kernel_rfl) rfl (fun K hK=>?_)
    go_simp
    refine (As (bA xa) _ (by omega) (G2.below hI)).mono ?_
    rw[Af]
    rintro e u2 ⟨hm,hb⟩
    have hA:=Aa hI hb
    try replace FB:=FB.below hb
    clear hb
    cases hB:numP xa with
    |none=>
     rw[hB] at hm
     obtain⟨tp,pe,rfl⟩:=hm
     exact⟨rfl,⟨tp,pe,rfl⟩,hA,(by first | exact .inl hB | rfl | exact .inl rfl)⟩
    |some n1=>
     rw[hB] at hm
     subst hm
     dsimp only
     refine hK.out _ _ (hz u2 hA) (fun hHeld=>?_)
     clear hK K
     try simp only[Act.put,Yj,Yq,Yr]
     refine Aq (i:=7) (by kernel_rfl) rfl (fun K hK=>?_)
     go_simp
     refine (As (bA xn) _ (by omega) (G2.below hA)).mono ?_
     rw[Af]
     rintro e u3 ⟨hm,hb⟩
     have hJ:=Aa hA hb
     try replace FB:=FB.below hb
     clear hb
     cases hq:numP xn with
     |none=>
      rw[hq] at hm
      obtain⟨tp,pe,rfl⟩:=hm
      exact⟨rfl,⟨tp,pe,rfl⟩,hJ,(by first | exact .inr hq | rfl | exact .inr rfl)⟩
     |some n2=>
      rw[hq] at hm
      subst hm
      dsimp only
      refine hK.out _ _ (hz u3 hJ) (fun hHeld=>?_)
      clear hK K
      try simp only[Act.put,Yj,Yq,Yr]
      refine tkp 8 ?_
      obtain⟨t0,t1,t2,t3,t4,t5⟩:=Hi FB
      have s0:=FB.frozen 0
      have s1:=FB.frozen 1
      have s2:=FB.frozen 2
      have s3:=FB.frozen 3
      have s4:=FB.frozen 4
      have s5:=FB.frozen 5
      refine Aq (i:=10) (by kernel_rfl) rfl (fun K hK=>?_)
      go_simp
      obtain⟨F9,hL⟩:=FM FB (.int .i64 n1) (.int .i64 n2) (.slice none 0 0) (.slice none 0 0) (.slice none 0 0) (.slice none 0 0)
      have hN:=ao_ hJ hL hQ.out
      refine hK.out _ _ (hz _ hN) (fun hHeld=>?_)
      clear hK K
      try simp only[Act.put,Yj,Yq,Yr]
      refine wpAnyH_done (by kernel_rfl) ?_ _
      refine Cf (by simp only[B3,YE,List.foldl_nil,Act.put,Act.eval,Yj,Yq,Yr,Array.getD_eq_getD_getElem?,Yp,Yt,Yo,Yw]) ?_
      exact⟨ob,n1,n2,(by first | exact hB | rfl),(by simp only[Act.eval,Array.getD_eq_getD_getElem?,Yp,Yt,Yo,Yw]),(by first | exact hq | rfl),F9,hN,hQ.out⟩
  case pan2=>
   rintro c a' u hd ⟨⟨tp,pe,rfl⟩,hU,qK⟩
   have he:M=none:=by
    rw[h9.out]
    rcases qK with h | h
    ·rw[h];rfl
    ·rw[h];cases numP xa<;>rfl
   subst he
   go_wp2
   exact⟨hd,⟨tp,pe,rfl⟩,Bv hc hU⟩
  case rest2=>
   rintro x u ⟨pb,n1,n2,hB,e4,hq,PB,hU,qX⟩
   rw[hB,hq] at h9
   have qb:Hid (M=X.bind fun x=>fV n1 n2 x.1 x.2):=h9.out
   simp only[B3,YE,List.foldl_nil,e4]
   try simp only[Act.put,Yj,Yq,Yr]
   generalize x 7=s7;generalize x 8=s8;generalize x 9=s9;generalize x 10=s10;generalize x 11=s11;generalize x 12=s12;generalize x 13=s13;generalize x 14=s14;generalize x 15=s15
   clear e4 x h9
   replace D2:=D2.below hU
   replace QB:=QB.below hU
   replace hc:=Bv hc hU
   clear c1 c2 hz hB hq hU G2 WB
   go_wp2_with fail
   go_loopw [3] (fun _ wr=>∃ (ex:List Ex) (rest:List By) (ea:Option Addr) (en ec:Nat),Blk wr pb #[.int .i64 n1,.int .i64 n2,.slice ea en ec,.slice none 0 0,.slice none 0 0,.slice none 0 0] tPo∧Blk wr w.heap.size #[.int .i64 0,.int .i64 0,.slice none 0 0,.slice none 0 0,.slice none 0 0,.slice none 0 0] tPo∧Ad Ex.cs 2 tE wr w.heap.size ea en ec ex∧CK wr rb rest∧en+rest.length<=60000∧Hid (X=(manyP exK exP rest).map fun q=>(ex++q.1,q.2))∧w.grownBy wr (some rb)) (fun _ wr=>lnV (wr.cell? ⟨rb,0,none⟩))
   case atStart=>exact⟨[],r,none,0,0,PB,QB,aB_,D2,by omega,by show _=_;rw[<-qj.out];cases manyP exK exP r<;>rfl,hc⟩
   case round=>
    clear PB QB D2 hc
    obtain⟨ex,rest,ea,en,ec,PB,QB,RE,D,hn,hX,hc⟩:=hrel
    have G:=hG.grown hc hrb
    have qt:=hc.size
    have qa:=Cq rb rest ⟨#[101,120,116,101,110,116]⟩ wr D (by decide)
    rw[show (⟨#[101,120,116,101,110,116]⟩:ByteArray).data.toList=exK from rfl] at qa
    go_wp2_with fail
    refine qa.mono ?_
    rintro e w1 ⟨rfl,qs⟩
    obtain rfl:wr=w1:=qs.symm
    clear qa
    cases hE:ahL exK rest with
    |true=>
     cases rest with
     |nil=>cases hE
     |cons l2 r2=>
      have hZ:ahP exK l2=true:=hE
      have q:=CZ rb (l2::r2) ⟨#[101,120,116,101,110,116]⟩ 2 wr D G hrb (by decide) (by omega) (by omega)
      rw[show (⟨#[101,120,116,101,110,116]⟩:ByteArray).data.toList=exK from rfl] at q
      simp only[Zw] at hn
      have hY:=hX.out
      rw[EC hZ] at hY
      cases ht:Ck exK 2 (l2::r2) with
      |none=>
       rw[ht] at q
       rw[LD hZ ht] at hY
       have h5:X=none:=hY
       subst h5
       have he:M=none:=qb.out
       subst he
       go_wp2_with fail
       refine q.mono ?_
       rintro e w2 ⟨⟨tp,pe,rfl⟩,hR⟩
       go_wp2
       exact⟨rfl,⟨tp,pe,rfl⟩,A5 hc hR (fun k e=>by cases e;exact .inr rfl)⟩
      |some qq=>
       rw[ht] at q
       obtain⟨xb,xd,rfl,qz⟩:=LE hZ ht
       rw[qz] at hY
       have qk:Hid (X=((numP xb).map fun n=>(⟨n,bA xd⟩:Ex)).bind fun x=>(manyP exK exP r2).map fun q=>(ex++x::q.1,q.2)):=by
        show _=_
        rw[hY]
        generalize ((numP xb).map fun n=>(⟨n,bA xd⟩:Ex))=o
        cases o with
        |none=>rfl
        |some x=>cases manyP exK exP r2<;>rfl
       clear hY qz hX hE ht
       go_wp2_with fail
       refine q.mono ?_
       rintro e w5 ⟨⟨h3,q0,rfl,_,hS,qP,qQ,⟨qW,WB5⟩,D5⟩,h0⟩
       obtain⟨d1,y1⟩:=hS 0 xb rfl
       obtain⟨d2,y2⟩:=hS 1 xd rfl
       simp only[Zq,Nat.reduceAdd] at d1 d2
       clear hS q
       replace G:=G.grown h0 hrb
       replace PB:=PB.grown h0 (by simp;omega)
       replace QB:=QB.grown h0 (by simp;omega)
       replace RE:=RE.offB h0 hH
       replace hc:=A5 hc h0 (fun k e=>by cases e;exact .inr rfl)
       clear h0
       go_upto_region 5 with fail
       have hk:Below w5.heap.size w5 w5.drew:=(Yg _ _).drew
       replace d1:=Ab hk d1
       replace d2:=Ab hk d2
       replace WB5:=WB5.below hk
       replace D5:=D5.below hk
       replace G:=G.below hk
       replace RE:=RE.below hk
       replace PB:=PB.below hk
       replace QB:=QB.below hk
       replace hc:=Bv hc hk
       have qx:(fun u=>u.cell? ⟨pb,2,none⟩=some (.slice ea en ec)∧u.cell? ⟨h3,1,none⟩=some (.string (bA xb))∧u.cell? ⟨h3,2,none⟩=some (.string (bA xd))) w5.drew:=⟨PB.cell 2,d1,d2⟩
       refine ar_ (S:=(fun u=>u.cell? ⟨pb,2,none⟩=some (.slice ea en ec)∧u.cell? ⟨h3,1,none⟩=some (.string (bA xb))∧u.cell? ⟨h3,2,none⟩=some (.string (bA xd)))) 13 (by kernel_rfl) (by kernel_rfl) ?_
       generalize w5.drew=y0 at *
       clear hk
       refine tk 0 ?_
       refine tk 1 ?_
       refine tk 2 ?_
       refine tk 3 ?_
       refine tk 4 ?_
       refine tk 6 ?_
       refine tk 7 ?_
       refine tk 8 ?_
       refine Aq (i:=5) (by kernel_rfl) rfl (fun K hK=>?_)
       go_simp
       refine (As (bA xb) _ (by omega) G).mono ?_
       rw[Af]
       rintro e z3 ⟨hm,hb⟩
       replace d1:=Ab hb d1
       replace d2:=Ab hb d2
       replace WB5:=WB5.below hb
       replace D5:=D5.below hb
       replace RE:=RE.below hb
       replace PB:=PB.below hb
       replace QB:=QB.below hb
       replace hc:=Bv hc hb
       clear hb
       cases qo:numP xb with
       |none=>
        rw[qo] at hm qk
        obtain⟨tp,pe,rfl⟩:=hm
        have h5:X=none:=qk.out
        subst h5
        have he:M=none:=qb.out
        subst he
        show C8 _ _ _ _ (.panic _) _ _
        unfold C8
        go_wp2
        exact⟨rfl,⟨tp,pe,rfl⟩,hc⟩
       |some m1=>
        rw[qo] at hm
        subst hm
        dsimp only
        refine hK.out _ _ ⟨PB.cell 2,d1,d2⟩ (fun hHeld=>?_)
        clear hK K
        try simp only[Act.put,Yj,Yq,Yr]
        refine tk 9 ?_
        refine Aq (i:=10) (by kernel_rfl) rfl (fun K hK=>?_)
        go_simp
        have hp:Below z3.heap.size z3 (z3.alloc (.cells (Ex.cs (⟨m1,bA xd⟩:Ex)).toArray tE)):=(Yg _ _).alloc (Zd _) _
        have L4:=Ci FZ z3 (⟨m1,bA xd⟩:Ex) tE _ rfl
        replace d1:=Ab hp d1
        replace d2:=Ab hp d2
        replace WB5:=WB5.below hp
        replace D5:=D5.below hp
        replace RE:=RE.below hp
        replace PB:=PB.below hp
        replace QB:=QB.below hp
        replace hc:=Bv hc hp
        change K _ (z3.alloc (.cells (Ex.cs (⟨m1,bA xd⟩:Ex)).toArray tE))
        generalize z3.alloc (.cells (Ex.cs (⟨m1,bA xd⟩:Ex)).toArray tE)=z4 at *
        clear hp
        refine hK.out _ _ ⟨PB.cell 2,d1,d2⟩ (fun hHeld=>?_)
        clear hK K
        try simp only[Act.put,Yj,Yq,Yr]
        refine Aq (i:=11) (by kernel_rfl) rfl (fun K hK=>?_)
        refine aJ_ rfl (mX_ _ _ 24 rfl w.heap.size tE i0 (.agg #[.int .i64 0,.string .empty]) 24 underlying24 qI qU qV qu rfl (by decide) FZ I4 ea en ec _ rfl RE _ 1 1 [(⟨m1,bA xd⟩:Ex)] rfl L4 (fun ad h=>(by cases h;rfl)) (fun h=>(by cases h)) (en+1) rfl (by unfold maxLen;omega) (by omega) (by have:=hc.size;omega) (fun a4 cap4 w4 R4 hr qm=>?_))
        have hC:=RE.rowTy (m:=en) (k:=ec)
        have hD:=PB.ty hr hC (by decide)
        have qd:=QB.ty hr hC (by decide)
        have D6:=D5.ty hr hC (by decide) (by decide)
        have WB6:=WB5.ty hr hC (by decide)
        have e1:w4.cell? ⟨h3,1,none⟩=some (.string (bA xb)):=by rw[WB6.cell,<-WB5.cell];exact d1
        have e2:w4.cell? ⟨h3,2,none⟩=some (.string (bA xd)):=by rw[WB6.cell,<-WB5.cell];exact d2
        have hT:=A5 hc hr (fun k e=>.inl (Cg (fun ad e=>(RE.block ad e).1) k e))
        have qG:Hid (X=(manyP exK exP r2).map fun q=>((ex++[(⟨m1,bA xd⟩:Ex)])++q.1,q.2)):=by
         show _=_
         rw[qk.out,qo]
         show (manyP exK exP r2).map _=_
         simp
        refine hK.out _ _ ⟨hD.cell 2,e1,e2⟩ (fun hHeld=>?_)
        clear hK K
        try simp only[Act.put,Yj,Yq,Yr]
        refine tk 12 ?_
        have p1:=hD.cell 2
        have q1:=hD.frozen 2
        clear hC hr qm PB QB RE D5 WB5 WB6 d1 d2 e1 e2 hc L4 G hHeld
        refine wpAnyH_done (by kernel_rfl) ?_ _
        refine lastL rfl ?_
        go_wp2
        have hg:w4.grownBy (w4.setCell ⟨pb,2,none⟩ (.slice a4 (en+1) cap4)) (some pb):=af_ (Yh _ _) _ _
        have ho:=aa_ hD
        have P9:Blk (w4.setCell ⟨pb,2,none⟩ (.slice a4 (en+1) cap4)) pb #[.int .i64 n1,.int .i64 n2,.slice a4 (en+1) cap4,.slice none 0 0,.slice none 0 0,.slice none 0 0] tPo:=by simpa using hD.set 2 (.slice a4 (en+1) cap4)
        have Q9:=qd.grown hg (by simp;omega)
        have R9:=R4.ty hg ho (by decide)
        have D9:=D6.ty hg ho (by decide) (by decide)
        have hF:=A5 hT hg (fun k e=>by cases e;exact .inl (by omega))
        generalize w4.setCell ⟨pb,2,none⟩ (.slice a4 (en+1) cap4)=W9 at *
        go_roundw
        case rel=>exact⟨ex++[(⟨m1,bA xd⟩:Ex)],r2,a4,en+1,cap4,P9,Q9,R9,D9,by omega,qG,hF⟩
        case measure=>(rw[D9.len,D.len];simp)
    |false=>
     have h5:X=some (ex,rest):=by rw[hX.out,Fy _ _ hE];simp
     subst h5
     obtain⟨V,qg⟩:∃ V,Hid (volsP rest.length rest=V):=⟨_,rfl⟩
     have qf:Hid (M=V.bind fun b=>fC n1 n2 ex b.1 b.2):=by show _=_;rw[qb.out,<-qg.out];rfl
     clear qb hX hE qj
     obtain⟨wo,rfl⟩:∃ x,x=wr:=⟨_,rfl⟩
     go_wp2_with fail
     go_loopw [33] (fun _ wr=>∃ (vs:List Vo) (vr:List VQ) (rest:List By) (va:Option Addr) (vn vc:Nat),Blk wr pb #[.int .i64 n1,.int .i64 n2,.slice ea en ec,.slice va vn vc,.slice none 0 0,.slice none 0 0] tPo∧Blk wr w.heap.size #[.int .i64 0,.int .i64 0,.slice none 0 0,.slice none 0 0,.slice none 0 0,.slice none 0 0] tPo∧Ad Ex.cs 2 tE wr w.heap.size ea en ec ex∧Ad VQ.cs 4 tV wr w.heap.size va vn vc vr∧Al2 (VoR wr w.heap.size) vr vs∧(Eu vr).Nodup∧(DS vr).Nodup∧CK wr rb rest∧vn+rest.length<=60000∧Hid (V=(volsP rest.length rest).map fun q=>(vs++q.1,q.2))∧w.grownBy wr (some rb)) (fun _ wr=>lnV (wr.cell? ⟨rb,0,none⟩))
     case atStart=>exact⟨[],[],rest,none,0,0,PB,QB,RE,aB_,.nil,List.nodup_nil,List.nodup_nil,D,by omega,by show _=_;rw[<-qg.out];cases volsP rest.length rest<;>rfl,hc⟩
     case round=>
      have qZ:rest.length<=60000:=by omega
      clear PB QB D hc RE qt G hn
      obtain⟨vs,vr,rest3,va,vn,vc,PB,QB,RE,RV,AL,N1,N2,D,hn,hV,hc⟩:=hrel
      have G:=hG.grown hc hrb
      have qt:=hc.size
      have qa:=Cq rb rest3 ⟨#[118,111,108,117,109,101]⟩ wr D (by decide)
      rw[show (⟨#[118,111,108,117,109,101]⟩:ByteArray).data.toList=Cl from rfl] at qa
      go_wp2_with fail
      refine qa.mono ?_
      rintro e w1 ⟨rfl,qs⟩
      obtain rfl:wr=w1:=qs.symm
      clear qa
      cases hE:ahL Cl rest3 with
      |true=>
       cases rest3 with
       |nil=>cases hE
       |cons l3 r3=>
        have hZ:ahP Cl l3=true:=hE
        have qc:=hV.out
        rw[Kg hZ] at qc
        obtain⟨O,hO⟩:∃ O,Hid (FP l3 r3=O):=⟨_,rfl⟩
        rw[hO.out] at qc
        have qy:Hid (V=O.bind fun v=>(volsP v.2.length v.2).map fun s=>(vs++v.1::s.1,s.2)):=by
         show _=_
         rw[qc]
         cases O with
         |none=>rfl
         |some v=>simp only[YO];cases volsP v.2.length v.2<;>rfl
        clear qc hV hE
        simp only[Zw] at hn
        go_upto_region 7 with fail
        have D0:=D
        have hk:Below wr.heap.size wr wr.drew:=(Yg _ _).drew
        replace D:=D.below hk
        replace G:=G.below hk
        replace RE:=RE.below hk
        replace RV:=RV.below hk
        replace AL:Al2 (VoR wr.drew w.heap.size) vr vs:=AL.imp fun _ _ _ h=>h.below hk
        replace PB:=PB.below hk
        replace QB:=QB.below hk
        replace hc:=Bv hc hk
        have qx:(fun u=>u.cell? ⟨pb,3,none⟩=some (.slice va vn vc)) wr.drew:=PB.cell 3
        refine ar_ (S:=(fun u=>u.cell? ⟨pb,3,none⟩=some (.slice va vn vc))) 7 (by kernel_rfl) (by kernel_rfl) ?_
        generalize wr.drew=y0 at *
        clear hk
        refine tk 0 ?_
        refine tk 1 ?_
        refine tk 2 ?_
        have q:=Hp rb l3 r3 y0 D hZ G hrb (by simp only[Zw];omega)
        rw[hO.out] at q
        refine Aq (i:=3) (by kernel_rfl) rfl (fun K hK=>?_)
        go_simp
        refine q.mono ?_
        cases O with
        |none=>
         rintro e z1 ⟨⟨tp,pe,rfl⟩,hf⟩
         have qh:V=none:=qy.out
         subst qh
         have he:M=none:=qf.out
         subst he
         show C8 _ _ _ _ (.panic _) _ _
         unfold C8
         go_wp2
         exact⟨rfl,⟨tp,pe,rfl⟩,A5 hc hf (fun k e=>by cases e;exact .inr rfl)⟩
        |some ov=>
         obtain⟨o,r4⟩:=ov
         rintro e z1 ⟨⟨v,rfl,VM,D5⟩,hf⟩
         obtain⟨ia,inn,ic,irs,rfl,RI,IL,NI⟩:=VM.out
         have qM:r4.length<=r3.length:=by
          have h1:=hO.out
          unfold FP at h1
          cases hv:voP l3 with
          |none=>rw[hv] at h1;cases h1
          |some hh=>
           rw[hv] at h1
           cases hi:itemsP r3.length r3 with
           |none=>rw[hi] at h1;cases h1
           |some qi=>
            rw[hi] at h1
            obtain⟨_,rfl⟩:=Prod.mk.inj (Zi h1)
            have:=(Ez hi).1
            omega
         have h7:=HE AL
         have h6:=Hs AL
         have qC:=hc.size
         have NA:(Eu (vr++[(⟨o.id,o.nm,o.fx,ia,inn,ic,irs⟩:VQ)])).Nodup:=by
          rw[Ev]
          refine EE (o:=none) (H:=y0.heap.size) (by simpa using N1) h7 (fun b e=>.inr ?_)
          change CF ia=some b at e
          cases qn:ia with
          |none=>rw[qn] at e;cases e
          |some ad=>
           rw[qn] at e
           obtain rfl:=Zi e
           exact (RI.block ad qn).1
         have NB:(DS (vr++[(⟨o.id,o.nm,o.fx,ia,inn,ic,irs⟩:VQ)])).Nodup:=by
          rw[Eq,Yf]
          refine ⟨N2,NI,fun a ha b hb=>?_⟩
          have h1:=h6 a ha
          have h2:=Ja IL b hb
          omega
         replace PB:=PB.grown hf (by simp;omega)
         replace QB:=QB.grown hf (by simp;omega)
         replace RE:=RE.offB hf hH
         replace RV:=RV.offB hf hH
         replace AL:Al2 (VoR z1 w.heap.size) vr vs:=AL.imp fun _ _ _ h=>h.offB hf hH
         replace hc:=A5 hc hf (fun k e=>by cases e;exact .inr rfl)
         have EV:VoR z1 w.heap.size (⟨o.id,o.nm,o.fx,ia,inn,ic,irs⟩:VQ) o:=⟨rfl,rfl,rfl,RI.mono qC,IL.imp fun _ _ _ h=>⟨h.nm,h.ps.mono qC⟩⟩
         clear hf RI IL NI D G h7 h6 VM q
         dsimp only
         refine hK.out _ _ (PB.cell 3) (fun hHeld=>?_)
         clear hK K
         try simp only[Act.put,Yj,Yq,Yr]
         refine Aq (i:=4) (by kernel_rfl) rfl (fun K hK=>?_)
         go_simp
         have hp:Below z1.heap.size z1 (z1.alloc (.cells (VQ.cs (⟨o.id,o.nm,o.fx,ia,inn,ic,irs⟩:VQ)).toArray tV)):=(Yg _ _).alloc (Zd _) _
         have L4:=Ci Fk z1 (⟨o.id,o.nm,o.fx,ia,inn,ic,irs⟩:VQ) tV _ rfl
         replace D5:=D5.below hp
         replace RE:=RE.below hp
         replace RV:=RV.below hp
         replace AL:Al2 (VoR (z1.alloc (.cells (VQ.cs (⟨o.id,o.nm,o.fx,ia,inn,ic,irs⟩:VQ)).toArray tV)) w.heap.size) vr vs:=AL.imp fun _ _ _ h=>h.below hp
         replace EV:=EV.below hp
         replace PB:=PB.below hp
         replace QB:=QB.below hp
         replace hc:=Bv hc hp
         change K _ (z1.alloc (.cells (VQ.cs (⟨o.id,o.nm,o.fx,ia,inn,ic,irs⟩:VQ)).toArray tV))
         generalize z1.alloc (.cells (VQ.cs (⟨o.id,o.nm,o.fx,ia,inn,ic,irs⟩:VQ)).toArray tV)=z4 at *
         clear hp
         refine hK.out _ _ (PB.cell 3) (fun hHeld=>?_)
         clear hK K
         try simp only[Act.put,Yj,Yq,Yr]
         refine Aq (i:=5) (by kernel_rfl) rfl (fun K hK=>?_)
         refine aJ_ rfl (mX_ _ _ 25 rfl w.heap.size tV i1 (.agg #[.int .i64 0,.string .empty,.bool false,.slice none 0 0]) 56 underlying25 qJ qR qS qT rfl (by decide) Fk Lj va vn vc _ rfl RV _ 1 1 [(⟨o.id,o.nm,o.fx,ia,inn,ic,irs⟩:VQ)] rfl L4 (fun ad h=>(by cases h;rfl)) (fun h=>(by cases h)) (vn+1) rfl (by unfold maxLen;omega) (by omega) (by have:=hc.size;omega) (fun a4 cap4 w4 R4 hr qm=>?_))
         have hC:=RV.rowTy (m:=vn) (k:=vc)
         have hD:=PB.ty hr hC (by decide)
         have qd:=QB.ty hr hC (by decide)
         have D6:=D5.ty hr hC (by decide) (by decide)
         have qD:=RE.ty hr hC (by decide)
         have AL6:Al2 (VoR w4 w.heap.size) (vr++[(⟨o.id,o.nm,o.fx,ia,inn,ic,irs⟩:VQ)]) (vs++[o]):=(AL.imp fun _ _ _ h=>h.ty hr hC (by decide) (by decide)).snoc (EV.ty hr hC (by decide) (by decide))
         have hT:=A5 hc hr (fun k e=>.inl (Cg (fun ad e=>(RV.block ad e).1) k e))
         have qF:Hid (V=(volsP r4.length r4).map fun q=>((vs++[o])++q.1,q.2)):=by
          show _=_
          rw[qy.out]
          show (volsP r4.length r4).map _=_
          simp
         refine hK.out _ _ (hD.cell 3) (fun hHeld=>?_)
         clear hK K
         try simp only[Act.put,Yj,Yq,Yr]
         refine tk 6 ?_
         have p1:=hD.cell 3
         have q1:=hD.frozen 3
         clear hC hr qm PB QB RE RV AL EV D5 hc L4 hHeld
         refine wpAnyH_done (by kernel_rfl) ?_ _
         refine lastL rfl ?_
         go_wp2
         have hg:w4.grownBy (w4.setCell ⟨pb,3,none⟩ (.slice a4 (vn+1) cap4)) (some pb):=af_ (Yh _ _) _ _
         have ho:=aa_ hD
         have P9:Blk (w4.setCell ⟨pb,3,none⟩ (.slice a4 (vn+1) cap4)) pb #[.int .i64 n1,.int .i64 n2,.slice ea en ec,.slice a4 (vn+1) cap4,.slice none 0 0,.slice none 0 0] tPo:=by simpa using hD.set 3 (.slice a4 (vn+1) cap4)
         have Q9:=qd.grown hg (by simp;omega)
         have qE:=qD.ty hg ho (by decide)
         have R9:=R4.ty hg ho (by decide)
         have AL9:Al2 (VoR (w4.setCell ⟨pb,3,none⟩ (.slice a4 (vn+1) cap4)) w.heap.size) (vr++[(⟨o.id,o.nm,o.fx,ia,inn,ic,irs⟩:VQ)]) (vs++[o]):=AL6.imp fun _ _ _ h=>h.ty hg ho (by decide) (by decide)
         have D9:=D6.ty hg ho (by decide) (by decide)
         have hF:=A5 hT hg (fun k e=>by cases e;exact .inl (by omega))
         generalize w4.setCell ⟨pb,3,none⟩ (.slice a4 (vn+1) cap4)=W9 at *
         go_roundw
         case rel=>exact⟨vs++[o],vr++[(⟨o.id,o.nm,o.fx,ia,inn,ic,irs⟩:VQ)],r4,a4,vn+1,cap4,P9,Q9,qE,R9,AL9,NA,NB,D9,by omega,qF,hF⟩
         case measure=>(rw[D9.len,D0.len];simp only[Zw];omega)
      |false=>
       have qh:V=some (vs,rest3):=by rw[hV.out,Lh hE];simp
       subst qh
       have hW:Hid (M=fC n1 n2 ex vs rest3):=qf.out
       clear qf hV hE qg
       have q:=FI rb rest3 ⟨#[114,101,102]⟩ wr D G hrb (by decide) (by omega)
       rw[show (⟨#[114,101,102]⟩:ByteArray).data.toList=B7 from rfl] at q
       unfold fC at hW
       go_wp2_with fail
       refine q.mono ?_
       clear q
       cases qp:manyP B7 ctP rest3 with
       |none=>
        rintro e z1 ⟨⟨tp,pe,rfl⟩,hf⟩
        rw[qp] at hW
        have he:M=none:=hW.out
        subst he
        go_wp2
        exact⟨rfl,⟨tp,pe,rfl⟩,A5 hc hf (fun k e=>by cases e;exact .inr rfl)⟩
       |some qr=>
        obtain⟨rf,r5⟩:=qr
        have qL:=DB qp
        simp only at qL
        rw[qp] at hW
        rintro e z1 ⟨⟨ra,rn,rc,rfl,RR,D5⟩,hf⟩
        replace PB:=PB.grown hf (by simp;omega)
        replace QB:=QB.grown hf (by simp;omega)
        replace RE:=RE.offB hf hH
        replace RV:=RV.offB hf hH
        replace AL:Al2 (VoR z1 w.heap.size) vr vs:=AL.imp fun _ _ _ h=>h.offB hf hH
        replace hc:=A5 hc hf (fun k e=>by cases e;exact .inr rfl)
        replace RR:=RR.mono qt
        have p1:=PB.cell 4
        have q1:=PB.frozen 4
        clear hf D G
        go_upto_region 9 with fail
        have hg:z1.grownBy (z1.setCell ⟨pb,4,none⟩ (.slice ra rn rc)) (some pb):=af_ (Yh _ _) _ _
        have ho:=aa_ PB
        have h8:Blk (z1.setCell ⟨pb,4,none⟩ (.slice ra rn rc)) pb #[.int .i64 n1,.int .i64 n2,.slice ea en ec,.slice va vn vc,.slice ra rn rc,.slice none 0 0] tPo:=by simpa using PB.set 4 (.slice ra rn rc)
        have hw:=QB.grown hg (by simp;omega)
        have qv:=RE.ty hg ho (by decide)
        have qw:=RV.ty hg ho (by decide)
        have qe:=RR.ty hg ho (by decide)
        have AL2:Al2 (VoR (z1.setCell ⟨pb,4,none⟩ (.slice ra rn rc)) w.heap.size) vr vs:=AL.imp fun _ _ _ h=>h.ty hg ho (by decide) (by decide)
        have D2:=D5.ty hg ho (by decide) (by decide)
        have hs:=A5 hc hg (fun k e=>by cases e;exact .inl (by omega))
        generalize z1.setCell ⟨pb,4,none⟩ (.slice ra rn rc)=z2 at *
        clear hg ho PB QB RE RV RR AL D5 hc p1 q1
        have q:=FI rb r5 ⟨#[108,97,116,101]⟩ z2 D2 (hG.grown hs hrb) hrb (by decide) (by omega)
        rw[show (⟨#[108,97,116,101]⟩:ByteArray).data.toList=Bj from rfl] at q
        go_wp2_with fail
        refine q.mono ?_
        clear q
        cases qB:manyP Bj ctP r5 with
        |none=>
         rintro e z3 ⟨⟨tp,pe,rfl⟩,hf⟩
         have he:M=none:=by rw[hW.out];simp[qB]
         subst he
         go_wp2
         exact⟨rfl,⟨tp,pe,rfl⟩,A5 hs hf (fun k e=>by cases e;exact .inr rfl)⟩
        |some ql=>
         obtain⟨lt,r6⟩:=ql
         have he:M=some (⟨n1,n2,ex,vs,rf,lt⟩,r6):=by rw[hW.out];simp[qB]
         subst he
         rintro e z3 ⟨⟨la,ln,lc,rfl,RL,D3⟩,hf⟩
         have qH:∀ x y,ra=some x->la=some y->x.block≠y.block:=fun x y hx hy=>by
          have h1:=(qe.block x hx).2
          have h2:=(RL.block y hy).1
          omega
         have qu:=hs.size
         have PB:=h8.grown hf (by simp;omega)
         have QB:=hw.grown hf (by simp;omega)
         have RE:=qv.offB hf hH
         have RV:=qw.offB hf hH
         have RR:=qe.offB hf hH
         have AL:Al2 (VoR z3 w.heap.size) vr vs:=AL2.imp fun _ _ _ h=>h.offB hf hH
         have hc:=A5 hs hf (fun k e=>by cases e;exact .inr rfl)
         replace RL:=RL.mono qu
         have p1:=PB.cell 5
         have q1:=PB.frozen 5
         clear hf h8 hw qv qw qe AL2 D2 hs
         go_upto_region 10 with fail
         have hg:z3.grownBy (z3.setCell ⟨pb,5,none⟩ (.slice la ln lc)) (some pb):=af_ (Yh _ _) _ _
         have ho:=aa_ PB
         have h8:Blk (z3.setCell ⟨pb,5,none⟩ (.slice la ln lc)) pb #[.int .i64 n1,.int .i64 n2,.slice ea en ec,.slice va vn vc,.slice ra rn rc,.slice la ln lc] tPo:=by simpa using PB.set 5 (.slice la ln lc)
         have hw:=QB.grown hg (by simp;omega)
         have M2:AE w.heap.size (z3.setCell ⟨pb,5,none⟩ (.slice la ln lc)) (.agg #[.int .i64 n1,.int .i64 n2,.slice ea en ec,.slice va vn vc,.slice ra rn rc,.slice la ln lc]) ⟨n1,n2,ex,vs,rf,lt⟩:=⟨ea,en,ec,va,vn,vc,ra,rn,rc,la,ln,lc,vr,rfl,RE.ty hg ho (by decide),RV.ty hg ho (by decide),RR.ty hg ho (by decide),RL.ty hg ho (by decide),qH,AL.imp fun _ _ _ h=>h.ty hg ho (by decide) (by decide),N1,N2⟩
         have D2:=D3.ty hg ho (by decide) (by decide)
         have hs:=A5 hc hg (fun k e=>by cases e;exact .inl (by omega))
         generalize z3.setCell ⟨pb,5,none⟩ (.slice la ln lc)=z4 at *
         clear hg ho PB QB RE RV RR AL D3 hc p1 q1 RL
         obtain⟨v0,v1,v2,v3,v4,v5⟩:=Hi h8
         obtain⟨r0,r1,r2,r3,r4,r5'⟩:=Hi hw
         have g0:=hw.frozen 0
         have g1:=hw.frozen 1
         have g2:=hw.frozen 2
         have g3:=hw.frozen 3
         have g4:=hw.frozen 4
         have g5:=hw.frozen 5
         go_wp2
         obtain⟨F9,hL⟩:=FM hw (.int .i64 n1) (.int .i64 n2) (.slice ea en ec) (.slice va vn vc) (.slice ra rn rc) (.slice la ln lc)
         have M9:=M2.box hL hw
         have D9:=D2.ty hL (aa_ hw) (by decide) (by decide)
         have hF:=A5 hs hL (fun k e=>by cases e;exact .inl (Zd _))
         generalize (((((z4.setCell ⟨w.heap.size,0,none⟩ (.int .i64 n1)).setCell ⟨w.heap.size,1,none⟩ (.int .i64 n2)).setCell ⟨w.heap.size,2,none⟩ (.slice ea en ec)).setCell ⟨w.heap.size,3,none⟩ (.slice va vn vc)).setCell ⟨w.heap.size,4,none⟩ (.slice ra rn rc)).setCell ⟨w.heap.size,5,none⟩ (.slice la ln lc)=W8 at *
         refine YW (results_cell_row rfl _ W8 w.heap.size _ _ _ _ rfl F9 underlying28 rfl (by kernel_rfl)) rfl ?_
         exact⟨⟨_,rfl,M9,D9⟩,hF⟩
end Go.Proofs.YtkiceokhlceciaaGreatDoor
