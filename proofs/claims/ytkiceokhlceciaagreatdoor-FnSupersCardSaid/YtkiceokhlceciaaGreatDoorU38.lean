/- Texts of pools, read and written; what is drawn. -/
import Derived.Test.YtkiceokhlceciaaGreatDoorU22
import Derived.Test.YtkiceokhlceciaaGreatDoorU37
set_option maxHeartbeats 20000000
set_option maxRecDepth 100000
namespace Go.Proofs.YtkiceokhlceciaaGreatDoor
section
open Go Go.RowKit Go.BigFrame Tryz
theorem FI (rb:Nat)(ls:List By)(wd:ByteArray)(w:World)(h:CK w rb ls)(hG:Glb w)(hrb:9<=rb)(hwd:wd.size<=100)(hl:ls.length<=60000) :
  Calls prog 90 #[.pointer (some ⟨rb,0,none⟩),.string wd] w fun e w'=>(match manyP wd.data.toList ctP ls with
   |none=>Pan e
   |some q=>∃ a n cap,e=.returned (.slice a n cap)∧Ad Ct.cs 4 tC w' w.heap.size a n cap q.1∧CK w' rb q.2)∧w.grownBy w' (some rb):=by
 obtain⟨M,hM⟩:∃ M,Hid (manyP wd.data.toList ctP ls=M):=⟨_,rfl⟩
 rw[hM.out]
 have hZ:=h.lt
 obtain⟨i0,hP,hV,hW,hX⟩:=info_parts KI
 go_enter func90,ntmps90
 go_wp2_with fail
 go_loopw [5] (fun av wr=>∃ (done:List Ct) (rest:List By) (a:Option Addr) (n cap:Nat),av=.slice a n cap∧Ad Ct.cs 4 tC wr w.heap.size a n cap done∧CK wr rb rest∧n+rest.length<=60000∧Hid (M=(manyP wd.data.toList ctP rest).map fun q=>(done++q.1,q.2))∧w.grownBy wr (some rb)) (fun _ wr=>lnV (wr.cell? ⟨rb,0,none⟩))
 case atStart=>exact⟨[],ls,none,0,0,rfl,aB_,h,by omega,by show _=_;rw[<-hM.out];cases manyP wd.data.toList ctP ls<;>rfl,Yh _ _⟩
 case round=>
  obtain⟨done,rest,a,n,cap,rfl,R,D,hn,hI,hg⟩:=hrel
  have G:=hG.grown hg hrb
  have h2:=hg.size
  go_wp2_with fail
  refine (Cq rb rest wd wr D hwd).mono ?_
  rintro e w1 ⟨rfl,hR⟩
  obtain rfl:wr=w1:=hR.symm
  cases hD:ahL wd.data.toList rest with
  |false=>
   have hf:M=some (done,rest):=by rw[hI.out,Fy _ _ hD];simp
   subst hf
   go_wp2
   go_returns
   exact⟨⟨a,n,cap,rfl,R,D⟩,hg⟩
  |true=>
   cases rest with
   |nil=>cases hD
   |cons l r=>
    have ha:ahP wd.data.toList l=true:=hD
    have q:=CZ rb (l::r) wd 4 wr D G hrb hwd (by omega) (by omega)
    cases ht:Ck wd.data.toList 4 (l::r) with
    |none=>
     rw[ht] at q
     have hf:M=none:=by rw[hI.out,EC ha,Lu ha ht];rfl
     subst hf
     go_wp2_with fail
     refine q.mono ?_
     rintro e w2 ⟨⟨tp,pe,rfl⟩,hz⟩
     go_wp2
     exact⟨rfl,⟨tp,pe,rfl⟩,A5 hg hz (fun k e=>by cases e;exact .inr rfl)⟩
    |some qq=>
     rw[ht] at q
     obtain⟨xa,xv,xf,xn,rfl,hJ⟩:=Lw ha ht
     have hy:Hid (M=(ctP l).bind fun x=>(manyP wd.data.toList ctP r).map fun q=>(done++x::q.1,q.2)):=by
      show _=_
      rw[hI.out,EC ha]
      cases ctP l with
      |none=>rfl
      |some x=>cases manyP wd.data.toList ctP r<;>rfl
     rw[hJ] at hy
     clear hJ hI
     go_wp2_with fail
     refine q.mono ?_
     rintro e w2 ⟨⟨wb,wc,rfl,_,hB,hS,hT,⟨h3,WB⟩,D2⟩,hz⟩
     obtain⟨c1,z1⟩:=hB 0 xa rfl
     obtain⟨c2,z2⟩:=hB 1 xv rfl
     obtain⟨c3,z3⟩:=hB 2 xf rfl
     obtain⟨c4,z4⟩:=hB 3 xn rfl
     simp only[Zq,Nat.reduceAdd] at c1 c2 c3 c4
     clear hB q hD ht
     have G2:=G.grown hz hrb
     have R2:=R.off hz (fun ad e=>by have:=(R.block ad e).1;simp;omega)
     have ho:=A5 hg hz (fun k e=>by cases e;exact .inr rfl)
     have h1:=ho.size
     clear hg hz R G
     have D0:=D
     clear D
     go_upto_region 4 with fail
     have hj:∀ u,Below w2.heap.size w2 u->(fun u=>u.cell? ⟨wb,1,none⟩=some (.string (bA xa))∧u.cell? ⟨wb,2,none⟩=some (.string (bA xv))∧u.cell? ⟨wb,3,none⟩=some (.string (bA xf))∧u.cell? ⟨wb,4,none⟩=some (.string (bA xn))) u:=fun u hu=>⟨Ab hu c1,Ab hu c2,Ab hu c3,Ab hu c4⟩
     refine Er (fun u=>u.cell? ⟨wb,1,none⟩=some (.string (bA xa))∧u.cell? ⟨wb,2,none⟩=some (.string (bA xv))∧u.cell? ⟨wb,3,none⟩=some (.string (bA xf))∧u.cell? ⟨wb,4,none⟩=some (.string (bA xn))) 14 [14,15,16,17,18,19,20,21,22,23,24,25,7] (fun x u=>∃ ob n1 n2,numP xa=some n1∧x 7=.pointer (some ⟨ob,0,none⟩)∧numP xv=some n2∧Blk u ob #[.int .i64 n1,.int .i64 n2,.string (bA xf)] tO∧Below w2.heap.size w2 u∧w2.heap.size<=ob) (fun c u=>(∃ tp pe,c=[{v:=.iface tp pe,recovered:=false}])∧Below w2.heap.size w2 u∧(numP xa=none∨numP xv=none)) (by kernel_rfl) rfl ?walk4 ?rest4 ?pan4
     case walk4=>
      have he:Below w2.heap.size w2 w2.drew:=(Yg _ _).drew
      generalize w2.drew=WD at he ⊢
      have hO:=hj WD he
      refine tkp 0 ?_
      refine tkp 1 ?_
      refine tkp 2 ?_
      refine tkp 4 ?_
      refine tkp 5 ?_
      refine tkp 6 ?_
      refine tkp 8 ?_
      refine tkp 9 ?_
      refine tkp 10 ?_
      refine G7 (i:=3) (j:=12) (by kernel_rfl) rfl rfl (fun K hK=>?_) (fun K hK=>?_)
      ·skip
       go_simp
       refine (As (bA xa) _ (by omega) (G2.below he)).mono ?_
       rw[Af]
       rintro e u1 ⟨hm,hb⟩
       have hp:=Aa he hb
       try replace FB:=FB.below hb
       clear hb
       cases hr:numP xa with
       |none=>
        rw[hr] at hm
        obtain⟨tp,pe,rfl⟩:=hm
        exact⟨rfl,⟨tp,pe,rfl⟩,hp,(by first | rfl | exact .inl rfl | exact .inl hr)⟩
       |some n1=>
        rw[hr] at hm
        subst hm
        dsimp only
        refine hK.out _ _ (hj u1 hp) (fun hHeld=>?_)
        clear hK K
        try simp only[Act.put,Yj,Yq,Yr]
        refine G7 (i:=7) (j:=12) (by kernel_rfl) rfl rfl (fun K hK=>?_) (fun K hK=>?_)
        ·skip
         go_simp
         refine (As (bA xv) _ (by omega) (G2.below hp)).mono ?_
         rw[Af]
         rintro e u2 ⟨hm,hb⟩
         have hk:=Aa hp hb
         try replace FB:=FB.below hb
         clear hb
         cases hh:numP xv with
         |none=>
          rw[hh] at hm
          obtain⟨tp,pe,rfl⟩:=hm
          exact⟨rfl,⟨tp,pe,rfl⟩,hk,(by first | rfl | exact .inr rfl | exact .inr hh)⟩
         |some n2=>
          rw[hh] at hm
          subst hm
          dsimp only
          refine hK.out _ _ (hj u2 hk) (fun hHeld=>?_)
          clear hK K
          try simp only[Act.put,Yj,Yq,Yr]
          refine tkp 11 ?_
          refine Aq (i:=12) (by kernel_rfl) rfl (fun K hK=>?_)
          go_simp
          have hw:Below u2.heap.size u2 (u2.alloc (.cells #[.int .i64 0,.int .i64 0,.string ⟨#[]⟩] tO)):=(Yg _ _).alloc (Zd _) _
          obtain⟨ob,hc⟩:∃ ob,ob=u2.heap.size:=⟨_,rfl⟩
          have FB:Blk (u2.alloc (.cells #[.int .i64 0,.int .i64 0,.string ⟨#[]⟩] tO)) ob #[.int .i64 0,.int .i64 0,.string ⟨#[]⟩] tO:=Blk.new' _ _ _ _ hc
          have hx:Hid (w2.heap.size<=ob):=by show _<=_;rw[hc];exact hk.size
          rw[<-hc]
          clear hc
          have hq:=Aa hk hw
          clear hw
          refine hK.out _ _ (hj _ hq) (fun hHeld=>?_)
          clear hK K
          try simp only[Act.put,Yj,Yq,Yr]
          generalize u2.alloc (.cells #[.int .i64 0,.int .i64 0,.string ⟨#[]⟩] tO)=u3 at *
          obtain⟨t0,t1,t2⟩:=Iy FB
          have s0:=FB.frozen 0
          have s1:=FB.frozen 1
          have s2:=FB.frozen 2
          refine Aq (i:=13) (by kernel_rfl) rfl (fun K hK=>?_)
          go_simp
          obtain⟨F9,hC⟩:=K5 FB (.int .i64 n1) (.int .i64 n2) (.string (bA xf))
          have hs:=ao_ hq hC hx.out
          refine hK.out _ _ (hj _ hs) (fun hHeld=>?_)
          clear hK K
          try simp only[Act.put,Yj,Yq,Yr]
          refine wpAnyH_done (by kernel_rfl) ?_ _
          refine Cf (by simp only[B3,YE,List.foldl_nil,Act.put,Act.eval,Yj,Yq,Yr,Array.getD_eq_getD_getElem?,Yp,Yt,Yo,Yw]) ?_
          exact⟨ob,n1,n2,(by first | rfl | assumption),(by simp only[Act.eval,Array.getD_eq_getD_getElem?,Yp,Yt,Yo,Yw]),(by first | rfl | assumption),F9,hs,hx.out⟩
        ·skip
         go_simp
         have hw:Below u1.heap.size u1 (u1.alloc (.cells #[.int .i64 0,.int .i64 0,.string ⟨#[]⟩] tO)):=(Yg _ _).alloc (Zd _) _
         obtain⟨ob,hc⟩:∃ ob,ob=u1.heap.size:=⟨_,rfl⟩
         have FB:Blk (u1.alloc (.cells #[.int .i64 0,.int .i64 0,.string ⟨#[]⟩] tO)) ob #[.int .i64 0,.int .i64 0,.string ⟨#[]⟩] tO:=Blk.new' _ _ _ _ hc
         have hx:Hid (w2.heap.size<=ob):=by show _<=_;rw[hc];exact hp.size
         rw[<-hc]
         clear hc
         have hk:=Aa hp hw
         clear hw
         refine hK.out _ _ (hj _ hk) (fun hHeld=>?_)
         clear hK K
         try simp only[Act.put,Yj,Yq,Yr]
         generalize u1.alloc (.cells #[.int .i64 0,.int .i64 0,.string ⟨#[]⟩] tO)=u2 at *
         refine Aq (i:=7) (by kernel_rfl) rfl (fun K hK=>?_)
         go_simp
         refine (As (bA xv) _ (by omega) (G2.below hk)).mono ?_
         rw[Af]
         rintro e u3 ⟨hm,hb⟩
         have hq:=Aa hk hb
         try replace FB:=FB.below hb
         clear hb
         cases hh:numP xv with
         |none=>
          rw[hh] at hm
          obtain⟨tp,pe,rfl⟩:=hm
          exact⟨rfl,⟨tp,pe,rfl⟩,hq,(by first | rfl | exact .inr rfl | exact .inr hh)⟩
         |some n2=>
          rw[hh] at hm
          subst hm
          dsimp only
          refine hK.out _ _ (hj u3 hq) (fun hHeld=>?_)
          clear hK K
          try simp only[Act.put,Yj,Yq,Yr]
          refine tkp 11 ?_
          obtain⟨t0,t1,t2⟩:=Iy FB
          have s0:=FB.frozen 0
          have s1:=FB.frozen 1
          have s2:=FB.frozen 2
          refine Aq (i:=13) (by kernel_rfl) rfl (fun K hK=>?_)
          go_simp
          obtain⟨F9,hC⟩:=K5 FB (.int .i64 n1) (.int .i64 n2) (.string (bA xf))
          have hs:=ao_ hq hC hx.out
          refine hK.out _ _ (hj _ hs) (fun hHeld=>?_)
          clear hK K
          try simp only[Act.put,Yj,Yq,Yr]
          refine wpAnyH_done (by kernel_rfl) ?_ _
          refine Cf (by simp only[B3,YE,List.foldl_nil,Act.put,Act.eval,Yj,Yq,Yr,Array.getD_eq_getD_getElem?,Yp,Yt,Yo,Yw]) ?_
          exact⟨ob,n1,n2,(by first | rfl | assumption),(by simp only[Act.eval,Array.getD_eq_getD_getElem?,Yp,Yt,Yo,Yw]),(by first | rfl | assumption),F9,hs,hx.out⟩
      ·skip
       go_simp
       have hw:Below WD.heap.size WD (WD.alloc (.cells #[.int .i64 0,.int .i64 0,.string ⟨#[]⟩] tO)):=(Yg _ _).alloc (Zd _) _
       obtain⟨ob,hc⟩:∃ ob,ob=WD.heap.size:=⟨_,rfl⟩
       have FB:Blk (WD.alloc (.cells #[.int .i64 0,.int .i64 0,.string ⟨#[]⟩] tO)) ob #[.int .i64 0,.int .i64 0,.string ⟨#[]⟩] tO:=Blk.new' _ _ _ _ hc
       have hx:Hid (w2.heap.size<=ob):=by show _<=_;rw[hc];exact he.size
       rw[<-hc]
       clear hc
       have hp:=Aa he hw
       clear hw
       refine hK.out _ _ (hj _ hp) (fun hHeld=>?_)
       clear hK K
       try simp only[Act.put,Yj,Yq,Yr]
       generalize WD.alloc (.cells #[.int .i64 0,.int .i64 0,.string ⟨#[]⟩] tO)=u1 at *
       refine Aq (i:=3) (by kernel_rfl) rfl (fun K hK=>?_)
       go_simp
       refine (As (bA xa) _ (by omega) (G2.below hp)).mono ?_
       rw[Af]
       rintro e u2 ⟨hm,hb⟩
       have hk:=Aa hp hb
       try replace FB:=FB.below hb
       clear hb
       cases hr:numP xa with
       |none=>
        rw[hr] at hm
        obtain⟨tp,pe,rfl⟩:=hm
        exact⟨rfl,⟨tp,pe,rfl⟩,hk,(by first | rfl | exact .inl rfl | exact .inl hr)⟩
       |some n1=>
        rw[hr] at hm
        subst hm
        dsimp only
        refine hK.out _ _ (hj u2 hk) (fun hHeld=>?_)
        clear hK K
        try simp only[Act.put,Yj,Yq,Yr]
        refine Aq (i:=7) (by kernel_rfl) rfl (fun K hK=>?_)
        go_simp
        refine (As (bA xv) _ (by omega) (G2.below hk)).mono ?_
        rw[Af]
        rintro e u3 ⟨hm,hb⟩
        have hq:=Aa hk hb
        try replace FB:=FB.below hb
        clear hb
        cases hh:numP xv with
        |none=>
         rw[hh] at hm
         obtain⟨tp,pe,rfl⟩:=hm
         exact⟨rfl,⟨tp,pe,rfl⟩,hq,(by first | rfl | exact .inr rfl | exact .inr hh)⟩
        |some n2=>
         rw[hh] at hm
         subst hm
         dsimp only
         refine hK.out _ _ (hj u3 hq) (fun hHeld=>?_)
         clear hK K
         try simp only[Act.put,Yj,Yq,Yr]
         refine tkp 11 ?_
         obtain⟨t0,t1,t2⟩:=Iy FB
         have s0:=FB.frozen 0
         have s1:=FB.frozen 1
         have s2:=FB.frozen 2
         refine Aq (i:=13) (by kernel_rfl) rfl (fun K hK=>?_)
         go_simp
         obtain⟨F9,hC⟩:=K5 FB (.int .i64 n1) (.int .i64 n2) (.string (bA xf))
         have hs:=ao_ hq hC hx.out
         refine hK.out _ _ (hj _ hs) (fun hHeld=>?_)
         clear hK K
         try simp only[Act.put,Yj,Yq,Yr]
         refine wpAnyH_done (by kernel_rfl) ?_ _
         refine Cf (by simp only[B3,YE,List.foldl_nil,Act.put,Act.eval,Yj,Yq,Yr,Array.getD_eq_getD_getElem?,Yp,Yt,Yo,Yw]) ?_
         exact⟨ob,n1,n2,(by first | rfl | assumption),(by simp only[Act.eval,Array.getD_eq_getD_getElem?,Yp,Yt,Yo,Yw]),(by first | rfl | assumption),F9,hs,hx.out⟩
     case pan4=>
      rintro c a' u hd ⟨⟨tp,pe,rfl⟩,hU,hQ⟩
      have hf:M=none:=by
       rw[hy.out]
       rcases hQ with h | h
       ·rw[h];rfl
       ·rw[h];cases numP xa<;>rfl
      subst hf
      go_wp2
      exact⟨hd,⟨tp,pe,rfl⟩,Bv ho hU⟩
     case rest4=>
      rintro x u ⟨ob,n1,n2,hr,e7,hh,OB,hU,h0⟩
      rw[hr,hh] at hy
      simp only[B3,YE,List.foldl_nil,e7]
      try simp only[Act.put,Yj,Yq,Yr]
      generalize x 14=s14;generalize x 15=s15;generalize x 16=s16;generalize x 17=s17;generalize x 18=s18;generalize x 19=s19;generalize x 20=s20;generalize x 21=s21;generalize x 22=s22;generalize x 23=s23;generalize x 24=s24;generalize x 25=s25
      clear e7 x
      replace c4:=Ab hU c4
      replace D2:=D2.below hU
      replace WB:=WB.below hU
      replace G2:=G2.below hU
      replace R2:=R2.below hU
      replace ho:=Bv ho hU
      have hA:=hU.size
      clear c1 c2 c3 hj hr hh hU
      simp only[Zw] at hn
      go_upto_region 5 with fail
      have he:Below u.heap.size u u.drew:=(Yg _ _).drew
      replace c4:=Ab he c4
      replace D2:=D2.below he
      replace WB:=WB.below he
      replace G2:=G2.below he
      replace R2:=R2.below he
      replace OB:=OB.below he
      replace ho:=Bv ho he
      replace hA:=Zl hA he.size
      have hO:(fun u=>(u.cell? ⟨ob,0,none⟩=some (.int .i64 n1)∧u.cell? ⟨ob,1,none⟩=some (.int .i64 n2)∧u.cell? ⟨ob,2,none⟩=some (.string (bA xf)))∧u.cell? ⟨wb,4,none⟩=some (.string (bA xn))) u.drew:=⟨Iy OB,c4⟩
      refine aC_ (S:=(fun u=>(u.cell? ⟨ob,0,none⟩=some (.int .i64 n1)∧u.cell? ⟨ob,1,none⟩=some (.int .i64 n2)∧u.cell? ⟨ob,2,none⟩=some (.string (bA xf)))∧u.cell? ⟨wb,4,none⟩=some (.string (bA xn)))) 10 (by kernel_rfl) rfl ?_
      generalize u.drew=y0 at *
      clear he
      refine tk 0 ?_
      refine tk 1 ?_
      refine tk 2 ?_
      refine tk 3 ?_
      refine tk 4 ?_
      refine Aq (i:=5) (by kernel_rfl) rfl (fun K hK=>?_)
      go_simp
      refine (As (bA xn) _ (by omega) G2).mono ?_
      rw[Af]
      rintro e y1 ⟨hm,hb⟩
      replace c4:=Ab hb c4
      replace D2:=D2.below hb
      replace WB:=WB.below hb
      replace R2:=R2.below hb
      replace OB:=OB.below hb
      replace ho:=Bv ho hb
      replace hA:=Zl hA hb.size
      clear hb G2
      cases hL:numP xn with
      |none=>
       rw[hL] at hm hy
       obtain⟨tp,pe,rfl⟩:=hm
       have hf:M=none:=hy.out
       subst hf
       go_wp2
       exact⟨rfl,⟨tp,pe,rfl⟩,ho⟩
      |some n4=>
       rw[hL] at hm hy
       subst hm
       dsimp only
       refine hK.out _ _ ⟨Iy OB,c4⟩ (fun hHeld=>?_)
       clear hK K
       try simp only[Act.put,Yj,Yq,Yr]
       refine tk 6 ?_
       refine Aq (i:=7) (by kernel_rfl) rfl (fun K hK=>?_)
       go_simp
       have hv:Below y1.heap.size y1 (y1.alloc (.cells (Ct.cs (⟨⟨n1,n2,bA xf⟩,n4⟩:Ct)).toArray tC)):=(Yg _ _).alloc (Zd _) _
       have L4:=Ci Ew y1 (⟨⟨n1,n2,bA xf⟩,n4⟩:Ct) tC _ rfl
       replace c4:=Ab hv c4
       replace D2:=D2.below hv
       replace WB:=WB.below hv
       replace R2:=R2.below hv
       replace OB:=OB.below hv
       replace ho:=Bv ho hv
       replace hA:=Zl hA hv.size
       change K _ (y1.alloc (.cells (Ct.cs (⟨⟨n1,n2,bA xf⟩,n4⟩:Ct)).toArray tC))
       generalize y1.alloc (.cells (Ct.cs (⟨⟨n1,n2,bA xf⟩,n4⟩:Ct)).toArray tC)=y2 at *
       clear hv
       refine hK.out _ _ ⟨Iy OB,c4⟩ (fun hHeld=>?_)
       clear hK K
       try simp only[Act.put,Yj,Yq,Yr]
       refine Aq (i:=8) (by kernel_rfl) rfl (fun K hK=>?_)
       refine aJ_ rfl (mX_ _ _ 26 rfl w.heap.size tC i0 (.agg #[.int .i64 0,.int .i64 0,.string .empty,.int .i64 0]) 40 underlying26 hP hV hW hX rfl (by decide) Ew Hl a n cap _ rfl R2 _ 1 1 [(⟨⟨n1,n2,bA xf⟩,n4⟩:Ct)] rfl L4 (fun ad h=>(by cases h;rfl)) (fun h=>(by cases h)) (n+1) rfl (by unfold maxLen;omega) (by omega) (by omega) (fun a4 cap4 w4 R4 hE hY=>?_))
       have hH:=R2.rowTy (m:=n) (k:=cap)
       have D4:=D2.ty hE hH (by decide) (by decide)
       have O4:=OB.ty hE hH (by decide)
       have hF:=A5 ho hE (fun k e=>.inl (Cg (fun ad e=>(R2.block ad e).1) k e))
       have c5:w4.cell? ⟨wb,4,none⟩=some (.string (bA xn)):=by rw[(WB.ty hE hH (by decide)).cell,<-WB.cell];exact c4
       have hN:Hid (M=(manyP wd.data.toList ctP r).map fun q=>((done++[(⟨⟨n1,n2,bA xf⟩,n4⟩:Ct)])++q.1,q.2)):=by
        show _=_
        rw[hy.out]
        show (manyP wd.data.toList ctP r).map _=_
        simp
       refine hK.out _ _ ⟨Iy O4,c5⟩ (fun hHeld=>?_)
       clear hK K
       try simp only[Act.put,Yj,Yq,Yr]
       refine tk 9 ?_
       refine wpAnyH_done (by kernel_rfl) ?_ _
       clear hHeld
       go_wp2
       go_roundw
       case rel=>exact⟨done++[(⟨⟨n1,n2,bA xf⟩,n4⟩:Ct)],r,a4,n+1,cap4,rfl,R4,D4,by omega,hN,hF⟩
       case measure=>(rw[D4.len,D0.len];simp)
end
section
open Go Tryz
theorem DB {α:Type}{wd:By}{f:By->Option α}:∀ {ls:List By} {q:List α×List By},manyP wd f ls=some q->q.2.length+q.1.length<=ls.length
 |[],q,h=>by obtain rfl:=Zi h;simp
 |l::r,q,h=>by
  rw[manyP] at h
  split at h
  ·cases hf:f l with
   |none=>rw[hf] at h;cases h
   |some x=>
    rw[hf] at h
    cases hm:manyP wd f r with
    |none=>rw[hm] at h;cases h
    |some p=>
     rw[hm] at h
     obtain rfl:=Zi h
     have:=DB hm
     simp
     omega
  ·obtain rfl:=Zi h;simp
theorem FJ:∀ (n k k':Nat) (ls:List By),ls.length<=n->ls.length<=k->ls.length<=k'->itemsP k ls=itemsP k' ls
 |0,k,k',ls,h,_,_=>by
  obtain rfl:=Zt (Nat.le_zero.1 h)
  cases k<;>cases k'<;>rfl
 |n+1,k,k',[],h,h1,h2=>by cases k<;>cases k'<;>rfl
 |n+1,k,k',l::r,h,h1,h2=>by
  simp only[Zw] at h h1 h2
  obtain⟨k,rfl⟩:∃ j,k=j+1:=⟨k-1,by omega⟩
  obtain⟨k',rfl⟩:∃ j,k'=j+1:=⟨k'-1,by omega⟩
  rw[itemsP,itemsP]
  split
  ·cases fileP l with
   |none=>rfl
   |some nm=>
    cases hm:manyP partK ptP r with
    |none=>rfl
    |some q=>
     have:=DB hm
     simp only[YO]
     rw[FJ n k k' q.2 (by omega) (by omega) (by omega)]
  ·rfl
theorem J1 {ls:List By}(h:ahL Bz ls=false):itemsP ls.length ls=some ([],ls):=by
 cases ls with
 |nil=>rfl
 |cons l r=>rw[Zw,itemsP,if_neg];intro e;rw[show ahL Bz (l::r)=ahP Bz l from rfl,e] at h;cases h
theorem IE {l:By}{r:List By}(h:ahP Bz l=true):itemsP (l::r).length (l::r)=(fileP l).bind fun nm=>(manyP partK ptP r).bind fun q=>(itemsP q.2.length q.2).map fun s=>(⟨nm,q.1⟩::s.1,s.2):=by
 rw[Zw,itemsP,if_pos h]
 cases fileP l with
 |none=>rfl
 |some nm=>
  cases hm:manyP partK ptP r with
  |none=>rfl
  |some q=>
   have:=DB hm
   simp only[YO]
   rw[FJ _ r.length q.2.length q.2 (Zd _) (by omega) (Zd _)]
theorem Ez:∀ {k:Nat} {ls:List By} {q:List It×List By},itemsP k ls=some q->q.2.length+q.1.length<=ls.length∧∀ x∈q.1,x.ps.length<=ls.length
 |0,ls,q,h=>by obtain rfl:=Zi h;simp
 |k+1,[],q,h=>by obtain rfl:=Zi h;simp
 |k+1,l::r,q,h=>by
  rw[itemsP] at h
  split at h
  ·cases hf:fileP l with
   |none=>rw[hf] at h;cases h
   |some nm=>
    rw[hf] at h
    simp only[YO] at h
    cases hm:manyP partK ptP r with
    |none=>rw[hm] at h;cases h
    |some p=>
     rw[hm] at h
     simp only[YO] at h
     have h1:=DB hm
     cases hi:itemsP k p.2 with
     |none=>rw[hi] at h;cases h
     |some s=>
      rw[hi] at h
      obtain rfl:=Zi h
      obtain⟨h2,h3⟩:=Ez hi
      refine ⟨by simp;omega,fun x hx=>?_⟩
      rcases Zn.1 hx with rfl | hx
      ·simp;omega
      ·have:=h3 x hx;simp;omega
  ·obtain rfl:=Zi h;simp
theorem Gv:∀ (n k k':Nat) (ls:List By),ls.length<=n->ls.length<=k->ls.length<=k'->volsP k ls=volsP k' ls
 |0,k,k',ls,h,_,_=>by
  obtain rfl:=Zt (Nat.le_zero.1 h)
  cases k<;>cases k'<;>rfl
 |n+1,k,k',[],h,h1,h2=>by cases k<;>cases k'<;>rfl
 |n+1,k,k',l::r,h,h1,h2=>by
  simp only[Zw] at h h1 h2
  obtain⟨k,rfl⟩:∃ j,k=j+1:=⟨k-1,by omega⟩
  obtain⟨k',rfl⟩:∃ j,k'=j+1:=⟨k'-1,by omega⟩
  rw[volsP,volsP]
  split
  ·cases voP l with
   |none=>rfl
   |some nm=>
    cases hm:itemsP r.length r with
    |none=>rfl
    |some q=>
     have:=(Ez hm).1
     simp only[YO]
     rw[Gv n k k' q.2 (by omega) (by omega) (by omega)]
  ·rfl
theorem Lh {ls:List By}(h:ahL Cl ls=false):volsP ls.length ls=some ([],ls):=by
 cases ls with
 |nil=>rfl
 |cons l r=>rw[Zw,volsP,if_neg];intro e;rw[show ahL Cl (l::r)=ahP Cl l from rfl,e] at h;cases h
def FP (l:By)(r:List By):Option (Vo×List By):=(voP l).bind fun h=>(itemsP r.length r).map fun q=>(⟨h.1,h.2.1,h.2.2,q.1⟩,q.2)
theorem Kg {l:By}{r:List By}(h:ahP Cl l=true):volsP (l::r).length (l::r)=(FP l r).bind fun v=>(volsP v.2.length v.2).map fun s=>(v.1::s.1,s.2):=by
 rw[Zw,volsP,if_pos h,FP]
 cases voP l with
 |none=>rfl
 |some nm=>
  cases hm:itemsP r.length r with
  |none=>rfl
  |some q=>
   have:=(Ez hm).1
   simp only[YO,Option.map_some]
   rw[Gv _ r.length q.2.length q.2 (Zd _) (by omega) (Zd _)]
theorem Nj {α:Type}:∀ {l:List α},l.length=2->∃ x a,l=[x,a]
 |[x,a],_=>⟨x,a,rfl⟩
theorem MU {α:Type}:∀ {l:List α},l.length=3->∃ x a b,l=[x,a,b]
 |[x,a,b],_=>⟨x,a,b,rfl⟩
theorem MV {α:Type}:∀ {l:List α},l.length=4->∃ x a b c,l=[x,a,b,c]
 |[x,a,b,c],_=>⟨x,a,b,c,rfl⟩
theorem LG {wd l:By}{r:List By}(ha:ahP wd l=true)(h:Ck wd 1 (l::r)=none):fileP l=none:=by
 have:=DF ha h
 unfold fileP
 split
 ·next e=>rw[e] at this;simp at this
 ·rfl
theorem LH {wd l:By}{r:List By}{q:List By×List By}(ha:ahP wd l=true)(h:Ck wd 1 (l::r)=some q):∃ a,q=([a],r)∧fileP l=some (bA a):=by
 obtain⟨h1,rfl⟩:=DG ha h
 obtain⟨x,a,e⟩:=Nj h1
 refine ⟨a,by rw[e];rfl,?_⟩
 unfold fileP
 rw[e]
theorem LS {wd l:By}{r:List By}(ha:ahP wd l=true)(h:Ck wd 3 (l::r)=none):ptP l=none:=by
 have:=DF ha h
 unfold ptP
 split
 ·next e=>rw[e] at this;simp at this
 ·rfl
theorem LT {wd l:By}{r:List By}{q:List By×List By}(ha:ahP wd l=true)(h:Ck wd 3 (l::r)=some q):∃ a f n,q=([a,f,n],r)∧ptP l=(numP a).bind fun a=>(numP f).bind fun f=>(numP n).map fun n=>⟨a,f,n⟩:=by
 obtain⟨h1,rfl⟩:=DG ha h
 obtain⟨x,a,f,n,e⟩:=MV h1
 refine ⟨a,f,n,by rw[e];rfl,?_⟩
 unfold ptP
 rw[e]
theorem LY {wd l:By}{r:List By}(ha:ahP wd l=true)(h:Ck wd 3 (l::r)=none):voP l=none:=by
 have:=DF ha h
 unfold voP
 split
 ·next e=>rw[e] at this;simp at this
 ·rfl
theorem LZ {wd l:By}{r:List By}{q:List By×List By}(ha:ahP wd l=true)(h:Ck wd 3 (l::r)=some q):∃ a f n,q=([a,f,n],r)∧voP l=(numP a).bind fun i=>(Cd n).map fun b=>(i,bA f,b):=by
 obtain⟨h1,rfl⟩:=DG ha h
 obtain⟨x,a,f,n,e⟩:=MV h1
 refine ⟨a,f,n,by rw[e];rfl,?_⟩
 unfold voP
 rw[e]
theorem LJ {wd l:By}{r:List By}(ha:ahP wd l=true)(h:Ck wd 2 (l::r)=none):hdP l=none:=by
 have:=DF ha h
 unfold hdP
 split
 ·next e=>rw[e] at this;simp at this
 ·rfl
theorem LK {wd l:By}{r:List By}{q:List By×List By}(ha:ahP wd l=true)(h:Ck wd 2 (l::r)=some q):∃ a b,q=([a,b],r)∧hdP l=(numP a).bind fun a=>(numP b).map fun b=>(a,b):=by
 obtain⟨h1,rfl⟩:=DG ha h
 obtain⟨x,a,b,e⟩:=MU h1
 refine ⟨a,b,by rw[e];rfl,?_⟩
 unfold hdP
 rw[e]
theorem LD {wd l:By}{r:List By}(ha:ahP wd l=true)(h:Ck wd 2 (l::r)=none):exP l=none:=by
 have:=DF ha h
 unfold exP
 split
 ·next e=>rw[e] at this;simp at this
 ·rfl
theorem LE {wd l:By}{r:List By}{q:List By×List By}(ha:ahP wd l=true)(h:Ck wd 2 (l::r)=some q):∃ a d,q=([a,d],r)∧exP l=(numP a).map fun n=>⟨n,bA d⟩:=by
 obtain⟨h1,rfl⟩:=DG ha h
 obtain⟨x,a,b,e⟩:=MU h1
 refine ⟨a,b,by rw[e];rfl,?_⟩
 unfold exP
 rw[e]
end
section
open Go Go.RowKit Go.BigFrame Tryz
structure Nd (w:World)(B:Nat)(v:Value)(o:Vo):Prop where
 out:∃ ia inn ic irs,v=.agg #[.int .i64 o.id,.string o.nm,.bool o.fx,.slice ia inn ic]∧Ad IQ.cs 2 tI w B ia inn ic irs∧Al2 (ItR w B) irs o.its∧(irs.filterMap fun x=>CF x.a).Nodup
theorem ItR.offB {w w':World}{B b:Nat}{r:IQ}{x:It}(h:ItR w B r x)(hg:w.grownBy w' (some b))(hb:b<B):ItR w' B r x:=⟨h.nm,h.ps.off hg (fun ad e=>by have:=(h.ps.block ad e).1;simp;omega)⟩
theorem Ad.offB {α:Type}{cs:α->List Value}{sz:Nat}{t:TypeId}{w w':World}{B n cap b:Nat}{a:Option Addr}{l:List α}(h:Ad cs sz t w B a n cap l)(hg:w.grownBy w' (some b))(hb:b<B):Ad cs sz t w' B a n cap l:=h.off hg (fun ad e=>by have:=(h.block ad e).1;simp;omega)
theorem JS {w:World}{b:Nat}{c0 c1 c2 c3:Value}{t:TypeId}(h:Blk w b #[c0,c1,c2,c3] t):w.cell? ⟨b,0,none⟩=some c0∧w.cell? ⟨b,1,none⟩=some c1∧w.cell? ⟨b,2,none⟩=some c2∧w.cell? ⟨b,3,none⟩=some c3:=⟨h.cell 0,h.cell 1,h.cell 2,h.cell 3⟩
theorem Jl {w:World}{b:Nat}{c0 c1 c2 c3:Value}{t:TypeId}(h:Blk w b #[c0,c1,c2,c3] t)(x y z v:Value):Blk ((((w.setCell ⟨b,0,none⟩ x).setCell ⟨b,1,none⟩ y).setCell ⟨b,2,none⟩ z).setCell ⟨b,3,none⟩ v) b #[x,y,z,v] t∧w.grownBy ((((w.setCell ⟨b,0,none⟩ x).setCell ⟨b,1,none⟩ y).setCell ⟨b,2,none⟩ z).setCell ⟨b,3,none⟩ v) (some b):=
 ⟨by have:=(((h.set 0 x).set 1 y).set 2 z).set 3 v;simpa using this,af_ (af_ (af_ (af_ (Yh _ _) _ _) _ _) _ _) _ _⟩
end
end Go.Proofs.YtkiceokhlceciaaGreatDoor
