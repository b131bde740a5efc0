/- A volume read by the program. -/
import Derived.Test.YtigldeccfpkdmaaGreatDoorK12
import Derived.Test.YtigldeccfpkdmaaGreatDoorK33
namespace Go.Proofs.YtigldeccfpkdmaaGreatDoor
open Go Go.RowKit Go.BigFrame
set_option maxHeartbeats 20000000
set_option maxRecDepth 100000
/-- A volume that a call has made: its items and their parts lie in blocks of their own, from B on. -/
structure VolM (w:World) (B:Nat) (v:Value) (o:Vo):Prop where
 out:∃ ia inn ic irs,v=.agg #[.int .i64 o.id,.string o.nm,.bool o.fx,.slice ia inn ic]∧ResAt IR.cs 2 tI w B ia inn ic irs∧Al2 (ItR w B) irs o.its∧(irs.filterMap fun x=>blkO x.a).Nodup
theorem ItR.offB {w w':World} {B b:Nat} {r:IR} {x:It} (h:ItR w B r x) (hg:w.grownBy w' (some b)) (hb:b<B):ItR w' B r x:=⟨h.nm,h.ps.off hg (fun ad e=>by have:=(h.ps.block ad e).1;simp;omega)⟩
theorem ResAt.offB {α:Type} {cs:α->List Value} {sz:Nat} {t:TypeId} {w w':World} {B n cap b:Nat} {a:Option Addr} {l:List α} (h:ResAt cs sz t w B a n cap l) (hg:w.grownBy w' (some b)) (hb:b<B):ResAt cs sz t w' B a n cap l:=h.off hg (fun ad e=>by have:=(h.block ad e).1;simp;omega)
theorem blk4 {w:World} {b:Nat} {c0 c1 c2 c3:Value} {t:TypeId} (h:Blk w b #[c0,c1,c2,c3] t):w.cell? ⟨b,0,none⟩=some c0∧w.cell? ⟨b,1,none⟩=some c1∧w.cell? ⟨b,2,none⟩=some c2∧w.cell? ⟨b,3,none⟩=some c3:=⟨h.cell 0,h.cell 1,h.cell 2,h.cell 3⟩
theorem put4F {w:World} {b:Nat} {c0 c1 c2 c3:Value} {t:TypeId} (h:Blk w b #[c0,c1,c2,c3] t) (x y z v:Value):Blk ((((w.setCell ⟨b,0,none⟩ x).setCell ⟨b,1,none⟩ y).setCell ⟨b,2,none⟩ z).setCell ⟨b,3,none⟩ v) b #[x,y,z,v] t∧w.grownBy ((((w.setCell ⟨b,0,none⟩ x).setCell ⟨b,1,none⟩ y).setCell ⟨b,2,none⟩ z).setCell ⟨b,3,none⟩ v) (some b):=
 ⟨by have:=(((h.set 0 x).set 1 y).set 2 z).set 3 v;simpa using this,ac_ (ac_ (ac_ (ac_ (World.grownBy.refl _ _) _ _) _ _) _ _) _ _⟩
theorem ia_ (rb:Nat) (l:By) (r:List By) (w:World) (h:RdAt w rb (l::r)) (ha:ahP volK l=true) (hG:Glb w) (hrb:9<=rb) (hl:(l::r).length<=60000) :
  Calls Tryz.prog 97 #[.pointer (some ⟨rb,0,none⟩)] w fun e w'=>(match volP1 l r with
   |none=>Pan e
   |some q=>∃ v,e=.returned v∧VolM w' w.heap.size v q.1∧RdAt w' rb q.2)∧w.grownBy w' (some rb):=by
 obtain ⟨M,hM⟩:∃ M,Hid (volP1 l r=M):=⟨_,rfl⟩
 rw [hM.out]
 have hlt:=h.lt
 simp only [List.length_cons] at hl
 obtain ⟨i0,hi0,hz0,hz1,hz2⟩:=info_parts infMI
 obtain ⟨i1,hj0,hy0,hy1,hy2⟩:=info_parts infMP
 have hA0:Below w.heap.size w (w.alloc (.cells #[.int .i64 0,.string ⟨#[]⟩,.bool false,.slice none 0 0] tV)):=(Below.refl _ _).alloc (Nat.le_refl _) _
 have QB:=Blk.new w #[.int .i64 0,.string ⟨#[]⟩,.bool false,.slice none 0 0] tV
 have D0:=h.below hA0
 have G0:=hG.below hA0
 have q:=bX_ rb (l::r) ⟨#[118,111,108,117,109,101]⟩ 3 _ D0 G0 hrb (by decide) (by omega) (by omega)
 rw [show (⟨#[118,111,108,117,109,101]⟩:ByteArray).data.toList=volK from rfl] at q
 go_enter Tryz.func97,Tryz.ntmps97
 go_wp2_with fail
 generalize w.alloc (.cells #[.int .i64 0,.string ⟨#[]⟩,.bool false,.slice none 0 0] tV)=W0 at *
 refine q.mono ?_
 clear q
 cases ht:takP volK 3 (l::r) with
 |none=>
  rintro e w2 ⟨⟨tp,pe,rfl⟩,hg2⟩
  have hfin:M=none:=by rw [<-hM.out,volP1,oR_ ha ht];rfl
  subst hfin
  go_wp2
  exact ⟨rfl,⟨tp,pe,rfl⟩,gstep (a3_ hA0) hg2 (fun k e=>by cases e;exact .inr rfl)⟩
 |some qq=>
  obtain ⟨xa,xf,xn,rfl,hvo⟩:=oS_ ha ht
  obtain ⟨I,hI0⟩:∃ I,Hid (itemsP r.length r=I):=⟨_,rfl⟩
  have hMc:Hid (M=((numP xa).bind fun i=>(flagP xn).map fun b=>(i,bA xf,b)).bind fun h=>I.map fun q=>(⟨h.1,h.2.1,h.2.2,q.1⟩,q.2)):=by
   show _=_
   rw [<-hM.out,volP1,hvo,hI0.out]
  clear hvo ht hM
  rintro e w2 ⟨⟨wb,wc,rfl,_,hcs,hwc1,hwc2,⟨wcs,WB⟩,D2⟩,hg2⟩
  obtain ⟨c1,z1⟩:=hcs 0 xa rfl
  obtain ⟨c2,z2⟩:=hcs 1 xf rfl
  obtain ⟨c3,z3⟩:=hcs 2 xn rfl
  simp only [Nat.zero_add,Nat.reduceAdd] at c1 c2 c3
  clear hcs
  have G2:=G0.grown hg2 hrb
  have hgw:=gstep (a3_ (row:=some rb) hA0) hg2 (fun k e=>by cases e;exact .inr rfl)
  replace QB:=QB.grown hg2 (by simp;omega)
  have hqw:w.heap.size<w2.heap.size:=QB.lt
  clear hg2 D0 G0 hA0
  go_upto_region 2 with fail
  have hSB:∀ u,Below w2.heap.size w2 u->(fun u=>u.cell? ⟨wb,1,none⟩=some (.string (bA xa))∧u.cell? ⟨wb,2,none⟩=some (.string (bA xf))∧u.cell? ⟨wb,3,none⟩=some (.string (bA xn))) u:=fun u hu=>⟨bcell hu c1,bcell hu c2,bcell hu c3⟩
  refine dd_ (fun u=>u.cell? ⟨wb,1,none⟩=some (.string (bA xa))∧u.cell? ⟨wb,2,none⟩=some (.string (bA xf))∧u.cell? ⟨wb,3,none⟩=some (.string (bA xn))) 14 [8,9,10,11,12,13,14,15,16,17,18,19,4] (fun x u=>∃ vb n1 fb,numP xa=some n1∧x 4=.pointer (some ⟨vb,0,none⟩)∧flagP xn=some fb∧Blk u vb #[.int .i64 n1,.string (bA xf),.bool fb,.slice none 0 0] tV∧Below w2.heap.size w2 u∧w2.heap.size<=vb) (fun c u=>(∃ tp pe,c=[{v:=.iface tp pe,recovered:=false}])∧Below w2.heap.size w2 u∧(numP xa=none∨flagP xn=none)) (by kernel_rfl) rfl ?walk2 ?rest2 ?pan2
  case walk2=>
    have hWd:Below w2.heap.size w2 w2.drew:=(Below.refl _ _).drew
    generalize w2.drew=WD at hWd ⊢
    have hS0:=hSB WD hWd
    refine tkp 0 ?_
    refine tkp 1 ?_
    refine tkp 2 ?_
    refine tkp 4 ?_
    refine tkp 5 ?_
    refine tkp 6 ?_
    refine tkp 7 ?_
    refine tkp 8 ?_
    refine tkp 9 ?_
    refine twoLJ (i:=3) (j:=12) (by kernel_rfl) rfl rfl (fun K hK=>?_) (fun K hK=>?_)
    ·skip
     go_simp
     refine (ai_ (bA xa) _ (by omega) (G2.below hWd)).mono ?_
     rw [af_]
     rintro e u1 ⟨hm,hb⟩
     have hU1:=chain hWd hb
     try replace FB:=FB.below hb
     clear hb
     cases hn1:numP xa with
     |none=>
      rw [hn1] at hm
      obtain ⟨tp,pe,rfl⟩:=hm
      exact ⟨rfl,⟨tp,pe,rfl⟩,hU1,(by first | rfl | exact .inl rfl | exact .inr rfl | exact .inl hn1 | exact .inr hn1)⟩
     |some n1=>
      rw [hn1] at hm
      subst hm
      dsimp only
      refine hK.out _ _ (hSB u1 hU1) (fun hHeld=>?_)
      clear hK K
      try simp only [Act.put,lsA,lsB,lsC]
      refine twoLJ (i:=10) (j:=12) (by kernel_rfl) rfl rfl (fun K hK=>?_) (fun K hK=>?_)
      ·skip
       go_simp
       refine (cm_ (bA xn) _ (G2.below hU1)).mono ?_
       rw [af_]
       rintro e uu ⟨hm,hu⟩
       obtain rfl:u1=uu:=hu.symm
       cases hfb:flagP xn with
       |none=>
        rw [hfb] at hm
        obtain ⟨tp,pe,rfl⟩:=hm
        exact ⟨rfl,⟨tp,pe,rfl⟩,hU1,(by first | rfl | exact .inl rfl | exact .inr rfl | exact .inl hfb | exact .inr hfb)⟩
       |some fb=>
        rw [hfb] at hm
        subst hm
        dsimp only
        refine hK.out _ _ (hSB u1 hU1) (fun hHeld=>?_)
        clear hK K
        try simp only [Act.put,lsA,lsB,lsC]
        refine tkp 11 ?_
        refine oneL (i:=12) (by kernel_rfl) rfl (fun K hK=>?_)
        go_simp
        have hbu:Below u1.heap.size u1 (u1.alloc (.cells #[.int .i64 0,.string ⟨#[]⟩,.bool false,.slice none 0 0] tV)):=(Below.refl _ _).alloc (Nat.le_refl _) _
        obtain ⟨ob,hob0⟩:∃ ob,ob=u1.heap.size:=⟨_,rfl⟩
        have FB:Blk (u1.alloc (.cells #[.int .i64 0,.string ⟨#[]⟩,.bool false,.slice none 0 0] tV)) ob #[.int .i64 0,.string ⟨#[]⟩,.bool false,.slice none 0 0] tV:=Blk.new' _ _ _ _ hob0
        have hfl:Hid (w2.heap.size<=ob):=by show _<=_;rw [hob0];exact hU1.size
        rw [<-hob0]
        clear hob0
        have hU2:=chain hU1 hbu
        clear hbu
        refine hK.out _ _ (hSB _ hU2) (fun hHeld=>?_)
        clear hK K
        try simp only [Act.put,lsA,lsB,lsC]
        generalize u1.alloc (.cells #[.int .i64 0,.string ⟨#[]⟩,.bool false,.slice none 0 0] tV)=u2 at *
        obtain ⟨t0,t1,t2,t3⟩:=blk4 FB
        have s0:=FB.frozen 0
        have s1:=FB.frozen 1
        have s2:=FB.frozen 2
        have s3:=FB.frozen 3
        refine oneL (i:=13) (by kernel_rfl) rfl (fun K hK=>?_)
        go_simp
        obtain ⟨F9,hg9⟩:=put4F FB (.int .i64 n1) (.string (bA xf)) (.bool fb) (.slice none 0 0)
        have hU9:=am_ hU2 hg9 hfl.out
        refine hK.out _ _ (hSB _ hU9) (fun hHeld=>?_)
        clear hK K
        try simp only [Act.put,lsA,lsB,lsC]
        refine wpAnyH_done (by kernel_rfl) ?_ _
        refine bo_ (by simp only [putAll,List.foldl_cons,List.foldl_nil,Act.put,Act.eval,List.setIfInBounds_toArray,List.set_cons_zero,List.set_cons_succ,Array.getD_eq_getD_getElem?,List.getElem?_toArray,List.getElem?_cons_succ,List.getElem?_cons_zero,Option.getD_some]) ?_
        exact ⟨ob,n1,fb,(by first | rfl | assumption),(by simp only [Act.eval,Array.getD_eq_getD_getElem?,List.getElem?_toArray,List.getElem?_cons_succ,List.getElem?_cons_zero,Option.getD_some]),(by first | rfl | assumption),F9,hU9,hfl.out⟩
      ·skip
       go_simp
       have hbu:Below u1.heap.size u1 (u1.alloc (.cells #[.int .i64 0,.string ⟨#[]⟩,.bool false,.slice none 0 0] tV)):=(Below.refl _ _).alloc (Nat.le_refl _) _
       obtain ⟨ob,hob0⟩:∃ ob,ob=u1.heap.size:=⟨_,rfl⟩
       have FB:Blk (u1.alloc (.cells #[.int .i64 0,.string ⟨#[]⟩,.bool false,.slice none 0 0] tV)) ob #[.int .i64 0,.string ⟨#[]⟩,.bool false,.slice none 0 0] tV:=Blk.new' _ _ _ _ hob0
       have hfl:Hid (w2.heap.size<=ob):=by show _<=_;rw [hob0];exact hU1.size
       rw [<-hob0]
       clear hob0
       have hU2:=chain hU1 hbu
       clear hbu
       refine hK.out _ _ (hSB _ hU2) (fun hHeld=>?_)
       clear hK K
       try simp only [Act.put,lsA,lsB,lsC]
       generalize u1.alloc (.cells #[.int .i64 0,.string ⟨#[]⟩,.bool false,.slice none 0 0] tV)=u2 at *
       refine oneL (i:=10) (by kernel_rfl) rfl (fun K hK=>?_)
       go_simp
       refine (cm_ (bA xn) _ (G2.below hU2)).mono ?_
       rw [af_]
       rintro e uu ⟨hm,hu⟩
       obtain rfl:u2=uu:=hu.symm
       cases hfb:flagP xn with
       |none=>
        rw [hfb] at hm
        obtain ⟨tp,pe,rfl⟩:=hm
        exact ⟨rfl,⟨tp,pe,rfl⟩,hU2,(by first | rfl | exact .inl rfl | exact .inr rfl | exact .inl hfb | exact .inr hfb)⟩
       |some fb=>
        rw [hfb] at hm
        subst hm
        dsimp only
        refine hK.out _ _ (hSB u2 hU2) (fun hHeld=>?_)
        clear hK K
        try simp only [Act.put,lsA,lsB,lsC]
        refine tkp 11 ?_
        obtain ⟨t0,t1,t2,t3⟩:=blk4 FB
        have s0:=FB.frozen 0
        have s1:=FB.frozen 1
        have s2:=FB.frozen 2
        have s3:=FB.frozen 3
        refine oneL (i:=13) (by kernel_rfl) rfl (fun K hK=>?_)
        go_simp
        obtain ⟨F9,hg9⟩:=put4F FB (.int .i64 n1) (.string (bA xf)) (.bool fb) (.slice none 0 0)
        have hU9:=am_ hU2 hg9 hfl.out
        refine hK.out _ _ (hSB _ hU9) (fun hHeld=>?_)
        clear hK K
        try simp only [Act.put,lsA,lsB,lsC]
        refine wpAnyH_done (by kernel_rfl) ?_ _
        refine bo_ (by simp only [putAll,List.foldl_cons,List.foldl_nil,Act.put,Act.eval,List.setIfInBounds_toArray,List.set_cons_zero,List.set_cons_succ,Array.getD_eq_getD_getElem?,List.getElem?_toArray,List.getElem?_cons_succ,List.getElem?_cons_zero,Option.getD_some]) ?_
        exact ⟨ob,n1,fb,(by first | rfl | assumption),(by simp only [Act.eval,Array.getD_eq_getD_getElem?,List.getElem?_toArray,List.getElem?_cons_succ,List.getElem?_cons_zero,Option.getD_some]),(by first | rfl | assumption),F9,hU9,hfl.out⟩
    ·skip
     go_simp
     have hbu:Below WD.heap.size WD (WD.alloc (.cells #[.int .i64 0,.string ⟨#[]⟩,.bool false,.slice none 0 0] tV)):=(Below.refl _ _).alloc (Nat.le_refl _) _
     obtain ⟨ob,hob0⟩:∃ ob,ob=WD.heap.size:=⟨_,rfl⟩
     have FB:Blk (WD.alloc (.cells #[.int .i64 0,.string ⟨#[]⟩,.bool false,.slice none 0 0] tV)) ob #[.int .i64 0,.string ⟨#[]⟩,.bool false,.slice none 0 0] tV:=Blk.new' _ _ _ _ hob0
     have hfl:Hid (w2.heap.size<=ob):=by show _<=_;rw [hob0];exact hWd.size
     rw [<-hob0]
     clear hob0
     have hU1:=chain hWd hbu
     clear hbu
     refine hK.out _ _ (hSB _ hU1) (fun hHeld=>?_)
     clear hK K
     try simp only [Act.put,lsA,lsB,lsC]
     generalize WD.alloc (.cells #[.int .i64 0,.string ⟨#[]⟩,.bool false,.slice none 0 0] tV)=u1 at *
     refine oneL (i:=3) (by kernel_rfl) rfl (fun K hK=>?_)
     go_simp
     refine (ai_ (bA xa) _ (by omega) (G2.below hU1)).mono ?_
     rw [af_]
     rintro e u2 ⟨hm,hb⟩
     have hU2:=chain hU1 hb
     try replace FB:=FB.below hb
     clear hb
     cases hn1:numP xa with
     |none=>
      rw [hn1] at hm
      obtain ⟨tp,pe,rfl⟩:=hm
      exact ⟨rfl,⟨tp,pe,rfl⟩,hU2,(by first | rfl | exact .inl rfl | exact .inr rfl | exact .inl hn1 | exact .inr hn1)⟩
     |some n1=>
      rw [hn1] at hm
      subst hm
      dsimp only
      refine hK.out _ _ (hSB u2 hU2) (fun hHeld=>?_)
      clear hK K
      try simp only [Act.put,lsA,lsB,lsC]
      refine oneL (i:=10) (by kernel_rfl) rfl (fun K hK=>?_)
      go_simp
      refine (cm_ (bA xn) _ (G2.below hU2)).mono ?_
      rw [af_]
      rintro e uu ⟨hm,hu⟩
      obtain rfl:u2=uu:=hu.symm
      cases hfb:flagP xn with
      |none=>
       rw [hfb] at hm
       obtain ⟨tp,pe,rfl⟩:=hm
       exact ⟨rfl,⟨tp,pe,rfl⟩,hU2,(by first | rfl | exact .inl rfl | exact .inr rfl | exact .inl hfb | exact .inr hfb)⟩
      |some fb=>
       rw [hfb] at hm
       subst hm
       dsimp only
       refine hK.out _ _ (hSB u2 hU2) (fun hHeld=>?_)
       clear hK K
       try simp only [Act.put,lsA,lsB,lsC]
       refine tkp 11 ?_
       obtain ⟨t0,t1,t2,t3⟩:=blk4 FB
       have s0:=FB.frozen 0
       have s1:=FB.frozen 1
       have s2:=FB.frozen 2
       have s3:=FB.frozen 3
       refine oneL (i:=13) (by kernel_rfl) rfl (fun K hK=>?_)
       go_simp
       obtain ⟨F9,hg9⟩:=put4F FB (.int .i64 n1) (.string (bA xf)) (.bool fb) (.slice none 0 0)
       have hU9:=am_ hU2 hg9 hfl.out
       refine hK.out _ _ (hSB _ hU9) (fun hHeld=>?_)
       clear hK K
       try simp only [Act.put,lsA,lsB,lsC]
       refine wpAnyH_done (by kernel_rfl) ?_ _
       refine bo_ (by simp only [putAll,List.foldl_cons,List.foldl_nil,Act.put,Act.eval,List.setIfInBounds_toArray,List.set_cons_zero,List.set_cons_succ,Array.getD_eq_getD_getElem?,List.getElem?_toArray,List.getElem?_cons_succ,List.getElem?_cons_zero,Option.getD_some]) ?_
       exact ⟨ob,n1,fb,(by first | rfl | assumption),(by simp only [Act.eval,Array.getD_eq_getD_getElem?,List.getElem?_toArray,List.getElem?_cons_succ,List.getElem?_cons_zero,Option.getD_some]),(by first | rfl | assumption),F9,hU9,hfl.out⟩
  case pan2=>
   rintro c a' u hd ⟨⟨tp,pe,rfl⟩,hU,hno⟩
   have hfin:M=none:=by
    rw [hMc.out]
    rcases hno with h | h
    ·rw [h];rfl
    ·rw [h];cases numP xa<;>rfl
   subst hfin
   go_wp2
   exact ⟨hd,⟨tp,pe,rfl⟩,gbelow hgw hU⟩
  case rest2=>
   rintro x u ⟨vb,n1,fb,hn1,e4,hfb,VB,hU,hvl⟩
   rw [hn1,hfb] at hMc
   have hMi:Hid (M=I.map fun q=>(⟨n1,bA xf,fb,q.1⟩,q.2)):=hMc.out
   simp only [putAll,List.foldl_cons,List.foldl_nil,e4]
   try simp only [Act.put,lsA,lsB,lsC]
   generalize x 8=s8;generalize x 9=s9;generalize x 10=s10;generalize x 11=s11;generalize x 12=s12;generalize x 13=s13;generalize x 14=s14;generalize x 15=s15;generalize x 16=s16;generalize x 17=s17;generalize x 18=s18;generalize x 19=s19
   clear e4 x hMc
   replace D2:=D2.below hU
   replace QB:=QB.below hU
   replace hgw:=gbelow hgw hU
   have huz:=hU.size
   clear c1 c2 c3 hSB hn1 hfb hU G2 WB
   generalize bA xf=nm at *
   go_wp2_with fail
   go_loopw [3] (fun _ wr=>∃ (its:List It) (irs:List IR) (rest:List By) (ia:Option Addr) (inn ic:Nat),Blk wr vb #[.int .i64 n1,.string nm,.bool fb,.slice ia inn ic] tV∧Blk wr w.heap.size #[.int .i64 0,.string ⟨#[]⟩,.bool false,.slice none 0 0] tV∧ResAt IR.cs 2 tI wr w.heap.size ia inn ic irs∧Al2 (ItR wr w.heap.size) irs its∧(irs.filterMap fun x=>blkO x.a).Nodup∧RdAt wr rb rest∧inn+rest.length<=60000∧Hid (I=(itemsP rest.length rest).map fun q=>(its++q.1,q.2))∧w.grownBy wr (some rb)) (fun _ wr=>lnV (wr.cell? ⟨rb,0,none⟩))
   case atStart=>exact ⟨[],[],r,none,0,0,VB,QB,aL_,.nil,List.nodup_nil,D2,by omega,by show _=_;rw [<-hI0.out];cases itemsP r.length r<;>rfl,hgw⟩
   case round=>
    clear VB QB D2 hgw
    obtain ⟨its,irs,rest,ia,inn,ic,VB,QB,RI,IL,hN,D,hn,hI,hgw⟩:=hrel
    have G:=hG.grown hgw hrb
    have hws:=hgw.size
    have qa:=bu_ rb rest ⟨#[102,105,108,101]⟩ wr D (by decide)
    rw [show (⟨#[102,105,108,101]⟩:ByteArray).data.toList=fileK from rfl] at qa
    go_wp2_with fail
    refine qa.mono ?_
    rintro e w1 ⟨rfl,hw1⟩
    obtain rfl:wr=w1:=hw1.symm
    clear qa
    cases hah:ahL fileK rest with
    |false=>
     have hIf:I=some (its,rest):=by rw [hI.out,mN_ hah];simp
     subst hIf
     have hfin:M=some (⟨n1,nm,fb,its⟩,rest):=hMi.out
     subst hfin
     obtain ⟨v0,v1,v2,v3⟩:=blk4 VB
     obtain ⟨r0,r1,r2,r3⟩:=blk4 QB
     have g0:=QB.frozen 0
     have g1:=QB.frozen 1
     have g2:=QB.frozen 2
     have g3:=QB.frozen 3
     go_wp2
     obtain ⟨F9,hg9⟩:=put4F QB (.int .i64 n1) (.string nm) (.bool fb) (.slice ia inn ic)
     have hty:=ap_ QB
     have RI9:=RI.ty hg9 hty (by decide)
     have IL9:Al2 (ItR _ w.heap.size) irs its:=IL.imp fun _ _ _ h=>h.ty hg9 hty (by decide)
     have D9:=D.ty hg9 hty (by decide) (by decide)
     have hgw9:=gstep hgw hg9 (fun k e=>by cases e;exact .inl (Nat.le_refl _))
     generalize (((wr.setCell ⟨w.heap.size,0,none⟩ (.int .i64 n1)).setCell ⟨w.heap.size,1,none⟩ (.string nm)).setCell ⟨w.heap.size,2,none⟩ (.bool fb)).setCell ⟨w.heap.size,3,none⟩ (.slice ia inn ic)=W8 at *
     refine bodyPost_ret (results_cell_row rfl _ W8 w.heap.size _ _ _ _ rfl F9 Tryz.underlying128 rfl (by kernel_rfl)) rfl ?_
     exact ⟨⟨_,rfl,⟨ia,inn,ic,irs,rfl,RI9,IL9,hN⟩,D9⟩,hgw9⟩
    |true=>
     cases rest with
     |nil=>cases hah
     |cons l2 r2=>
      have hal:ahP fileK l2=true:=hah
      have q:=bX_ rb (l2::r2) ⟨#[102,105,108,101]⟩ 1 wr D G hrb (by decide) (by omega) (by omega)
      rw [show (⟨#[102,105,108,101]⟩:ByteArray).data.toList=fileK from rfl] at q
      simp only [List.length_cons] at hn
      have hIx:=hI.out
      rw [kW_ hal] at hIx
      cases ht:takP fileK 1 (l2::r2) with
      |none=>
       rw [ht] at q
       rw [oN_ hal ht] at hIx
       have hIf:I=none:=hIx
       subst hIf
       have hfin:M=none:=hMi.out
       subst hfin
       go_wp2_with fail
       refine q.mono ?_
       rintro e w2 ⟨⟨tp,pe,rfl⟩,hg2⟩
       go_wp2
       exact ⟨rfl,⟨tp,pe,rfl⟩,gstep hgw hg2 (fun k e=>by cases e;exact .inr rfl)⟩
      |some qq=>
       rw [ht] at q
       obtain ⟨xi,rfl,hfl⟩:=oO_ hal ht
       obtain ⟨N,hN0⟩:∃ N,Hid (manyP partK ptP r2=N):=⟨_,rfl⟩
       have hIc:Hid (I=N.bind fun q=>(itemsP q.2.length q.2).map fun s=>(its++(⟨bA xi,q.1⟩:It)::s.1,s.2)):=by
        show _=_
        rw [hIx,hfl,hN0.out]
        cases N with
        |none=>rfl
        |some q=>simp only [Option.bind_some];cases itemsP q.2.length q.2<;>rfl
       clear hIx hfl ht hI hah
       go_wp2_with fail
       refine q.mono ?_
       rintro e w3 ⟨⟨wb1,wc1,rfl,_,hcs,hwe1,hwe2,_,D3⟩,hg3⟩
       obtain ⟨c1,zi⟩:=hcs 0 xi rfl
       simp only [Nat.zero_add] at c1
       clear hcs q
       go_wp2_with fail
       obtain ⟨wo,rfl⟩:∃ x,x=wr:=⟨_,rfl⟩
       have hA4:Below w3.heap.size w3 (w3.alloc (.cells #[.string (bA xi),.slice none 0 0] tI)):=(Below.refl _ _).alloc (Nat.le_refl _) _
       obtain ⟨xb,hxb⟩:∃ xb,xb=w3.heap.size:=⟨_,rfl⟩
       have XB:Blk (w3.alloc (.cells #[.string (bA xi),.slice none 0 0] tI)) xb #[.string (bA xi),.slice none 0 0] tI:=Blk.new' _ _ _ _ hxb
       have hxl:wo.heap.size<=xb:=by rw [hxb];exact hg3.size
       rw [<-hxb]
       clear hxb
       replace D3:=D3.below hA4
       have hgW:=gbelow hg3 hA4
       generalize w3.alloc (.cells #[.string (bA xi),.slice none 0 0] tI)=W4 at *
       clear hA4 hg3 c1 G
       generalize bA xi=inm at *
       have D00:=D
       clear D
       go_loopw [3] (fun _ wr=>∃ (ps:List Pt) (rest2:List By) (pa:Option Addr) (pn pc:Nat),Blk wr xb #[.string inm,.slice pa pn pc] tI∧ResAt Pt.cs 3 tP wr wo.heap.size pa pn pc ps∧RdAt wr rb rest2∧pn+rest2.length<=r2.length∧Hid (N=(manyP partK ptP rest2).map fun q=>(ps++q.1,q.2))∧wo.grownBy wr (some rb)) (fun _ wr=>lnV (wr.cell? ⟨rb,0,none⟩))
       case atStart=>exact ⟨[],r2,none,0,0,XB,aL_,D3,by omega,by show _=_;rw [<-hN0.out];cases manyP partK ptP r2<;>rfl,hgW⟩
       case round=>
        clear XB D3 hgW
        obtain ⟨ps,rest2,pa,pn,pc,XB,R5,D5,hn5,hN5,hgq⟩:=hrel
        have hgw5:=gstep hgw hgq (fun k e=>by cases e;exact .inr rfl)
        have G5:=hG.grown hgw5 hrb
        have hqz:=hgq.size
        have qa:=bu_ rb rest2 ⟨#[112,97,114,116]⟩ wr D5 (by decide)
        rw [show (⟨#[112,97,114,116]⟩:ByteArray).data.toList=partK from rfl] at qa
        go_wp2_with fail
        refine qa.mono ?_
        rintro e w1 ⟨rfl,hw1⟩
        obtain rfl:wr=w1:=hw1.symm
        clear qa
        cases hah:ahL partK rest2 with
        |false=>
         have hNf:N=some (ps,rest2):=by rw [hN5.out,eK_ _ _ hah];simp
         have hI6:Hid (I=(itemsP rest2.length rest2).map fun q=>((its++[(⟨inm,ps⟩:It)])++q.1,q.2)):=by
          show _=_
          rw [hIc.out,hNf]
          simp
         have hlt0:=fg_ IL
         replace VB:=VB.grown hgq (by simp;omega)
         replace QB:=QB.grown hgq (by simp;omega)
         replace RI:=RI.offB hgq hlt
         replace IL:Al2 (ItR wr w.heap.size) irs its:=IL.imp fun _ _ _ h=>h.offB hgq hlt
         obtain ⟨v0,v1,v2,v3⟩:=blk4 VB
         have x0:wr.cell? ⟨xb,0,none⟩=some (.string inm):=XB.cell 0
         have x1:wr.cell? ⟨xb,1,none⟩=some (.slice pa pn pc):=XB.cell 1
         have hwq5:=hgw5.size
         have hWA:Below wr.heap.size wr (wr.alloc (.cells (IR.cs (⟨inm,pa,pn,pc⟩:IR)).toArray tI)):=(Below.refl _ _).alloc (Nat.le_refl _) _
         go_wp2_with (at_builtin;refine al_ rfl (fun K hK=>bh_ _ _ 126 rfl w.heap.size tI i0 (.agg #[.string .empty,.slice none 0 0]) 40 Tryz.underlying126 hi0 hz0 hz1 hz2 rfl (by decide) d4_ nf_ ia inn ic _ rfl (RI.alloc _) _ 1 1 [(⟨inm,pa,pn,pc⟩:IR)] rfl (bi_ d4_ _ (⟨inm,pa,pn,pc⟩:IR) _ _ rfl) (fun ad h=>(by cases h;rfl)) (fun h=>(by cases h)) (inn+1) rfl (by unfold maxLen;omega) (by omega) (by simp;omega) (fun a4 cap4 w4 R4 hg4 hf4=>hK _ _ (HeldM.out ?_))))
         refine HeldM.mk ?_
         have hty:=(RI.below hWA).rowTy (m:=inn) (k:=ic)
         have VB5:=(VB.below hWA).ty hg4 hty (by decide)
         have QB5:=(QB.below hWA).ty hg4 hty (by decide)
         have D6:=(D5.below hWA).ty hg4 hty (by decide) (by decide)
         have IL5:Al2 (ItR w4 w.heap.size) irs its:=IL.imp fun _ _ _ h=>(h.below hWA).ty hg4 hty (by decide)
         have P5:=((R5.mono hws).below hWA).ty hg4 hty (by decide)
         have NN:((irs++[(⟨inm,pa,pn,pc⟩:IR)]).filterMap fun x=>blkO x.a).Nodup:=by
          rw [c3_]
          refine dp_ (o:=none) (H:=wo.heap.size) (by simpa using hN) hlt0 (fun b e=>.inr ?_)
          change blkO pa=some b at e
          cases hpa:pa with
          |none=>rw [hpa] at e;cases e
          |some ad=>
           rw [hpa] at e
           obtain rfl:=Option.some.inj e
           exact (R5.block ad hpa).1
         have hgw6:=gstep (gbelow hgw5 hWA) hg4 (fun k e=>.inl (bj_ (fun ad e=>(RI.block ad e).1) k e))
         have p3:=VB5.cell 3
         have q3:=VB5.frozen 3
         clear hty hg4 hf4 hWA VB QB RI IL XB R5 x0 x1 v0 v1 v2 v3 D5 hgq hgw5 G5
         go_wp2
         have hgv:w4.grownBy (w4.setCell ⟨vb,3,none⟩ (.slice a4 (inn+1) cap4)) (some vb):=ac_ (World.grownBy.refl _ _) _ _
         have htv:=ap_ VB5
         have V9:Blk (w4.setCell ⟨vb,3,none⟩ (.slice a4 (inn+1) cap4)) vb #[.int .i64 n1,.string nm,.bool fb,.slice a4 (inn+1) cap4] tV:=by simpa using VB5.set 3 (.slice a4 (inn+1) cap4)
         have Q9:=QB5.grown hgv (by simp;omega)
         have R9:=R4.ty hgv htv (by decide)
         have IL9:Al2 (ItR (w4.setCell ⟨vb,3,none⟩ (.slice a4 (inn+1) cap4)) w.heap.size) (irs++[(⟨inm,pa,pn,pc⟩:IR)]) (its++[(⟨inm,ps⟩:It)]):=(IL5.imp fun _ _ _ h=>h.ty hgv htv (by decide)).snoc ⟨rfl,P5.ty hgv htv (by decide)⟩
         have D9:=D6.ty hgv htv (by decide) (by decide)
         have hgw9:=gstep hgw6 hgv (fun k e=>by cases e;exact .inl (by omega))
         generalize w4.setCell ⟨vb,3,none⟩ (.slice a4 (inn+1) cap4)=W9 at *
         go_roundw
         case rel=>exact ⟨its++[(⟨inm,ps⟩:It)],irs++[(⟨inm,pa,pn,pc⟩:IR)],rest2,a4,inn+1,cap4,V9,Q9,R9,IL9,NN,D9,by omega,hI6,hgw9⟩
         case measure=>(rw [D9.len,D00.len];simp only [List.length_cons];omega)
        |true=>
         cases rest2 with
         |nil=>cases hah
         |cons l3 r3=>
          have hal3:ahP partK l3=true:=hah
          have q:=bX_ rb (l3::r3) ⟨#[112,97,114,116]⟩ 3 wr D5 G5 hrb (by decide) (by omega) (by omega)
          rw [show (⟨#[112,97,114,116]⟩:ByteArray).data.toList=partK from rfl] at q
          simp only [List.length_cons] at hn5
          have hNx:=hN5.out
          rw [dv_ hal3] at hNx
          cases ht:takP partK 3 (l3::r3) with
          |none=>
           rw [ht] at q
           rw [oP_ hal3 ht] at hNx
           have hNf:N=none:=hNx
           subst hNf
           have hIf:I=none:=hIc.out
           subst hIf
           have hfin:M=none:=hMi.out
           subst hfin
           go_wp2_with fail
           refine q.mono ?_
           rintro e w2 ⟨⟨tp,pe,rfl⟩,hg2⟩
           go_wp2
           exact ⟨rfl,⟨tp,pe,rfl⟩,gstep hgw5 hg2 (fun k e=>by cases e;exact .inr rfl)⟩
          |some qq=>
           rw [ht] at q
           obtain ⟨xp,xq,xs,rfl,hpt⟩:=oQ_ hal3 ht
           rw [hpt] at hNx
           have hNc:Hid (N=((numP xp).bind fun a=>(numP xq).bind fun f=>(numP xs).map fun n=>(⟨a,f,n⟩:Pt)).bind fun x=>(manyP partK ptP r3).map fun q=>(ps++x::q.1,q.2)):=by
            show _=_
            rw [hNx]
            generalize ((numP xp).bind fun a=>(numP xq).bind fun f=>(numP xs).map fun n=>(⟨a,f,n⟩:Pt))=o
            cases o with
            |none=>rfl
            |some x=>cases manyP partK ptP r3<;>rfl
           clear hNx hpt hN5 hah ht
           go_wp2_with fail
           refine q.mono ?_
           rintro e w5 ⟨⟨wb2,wc2,rfl,_,hcs,hwf1,hwf2,⟨wcs2,WB5⟩,D6⟩,hg5⟩
           obtain ⟨d1,y1⟩:=hcs 0 xp rfl
           obtain ⟨d2,y2⟩:=hcs 1 xq rfl
           obtain ⟨d3,y3⟩:=hcs 2 xs rfl
           simp only [Nat.zero_add,Nat.reduceAdd] at d1 d2 d3
           clear hcs q
           have D50:=D5
           replace D5:=D6
           clear D6
           replace G5:=G5.grown hg5 hrb
           replace XB:=XB.grown hg5 (by simp;omega)
           replace R5:=R5.offB hg5 (by omega)
           replace hgq:=gstep hgq hg5 (fun k e=>by cases e;exact .inr rfl)
           clear hg5 hgw5
           go_upto_region 7 with fail
           have hWd:Below w5.heap.size w5 w5.drew:=(Below.refl _ _).drew
           replace d1:=bcell hWd d1
           replace d2:=bcell hWd d2
           replace d3:=bcell hWd d3
           replace WB5:=WB5.below hWd
           replace D5:=D5.below hWd
           replace G5:=G5.below hWd
           replace R5:=R5.below hWd
           replace XB:=XB.below hWd
           replace hgq:=gbelow hgq hWd
           have hS0:(fun u=>u.cell? ⟨xb,1,none⟩=some (.slice pa pn pc)∧u.cell? ⟨wb2,1,none⟩=some (.string (bA xp))∧u.cell? ⟨wb2,2,none⟩=some (.string (bA xq))∧u.cell? ⟨wb2,3,none⟩=some (.string (bA xs))) w5.drew:=⟨XB.cell 1,d1,d2,d3⟩
           refine ax_ (S:=(fun u=>u.cell? ⟨xb,1,none⟩=some (.slice pa pn pc)∧u.cell? ⟨wb2,1,none⟩=some (.string (bA xp))∧u.cell? ⟨wb2,2,none⟩=some (.string (bA xq))∧u.cell? ⟨wb2,3,none⟩=some (.string (bA xs)))) 18 (by kernel_rfl) (by kernel_rfl) ?_
           generalize w5.drew=y0 at *
           clear hWd
           refine tk 0 ?_
           refine tk 1 ?_
           refine tk 2 ?_
           refine tk 3 ?_
           refine tk 4 ?_
           refine tk 6 ?_
           refine tk 7 ?_
           refine tk 8 ?_
           refine tk 10 ?_
           refine tk 11 ?_
           refine tk 12 ?_
           refine oneL (i:=5) (by kernel_rfl) rfl (fun K hK=>?_)
           go_simp
           refine (ai_ (bA xp) _ (by omega) G5).mono ?_
           rw [af_]
           rintro e z1 ⟨hm,hb⟩
           replace d1:=bcell hb d1
           replace d2:=bcell hb d2
           replace d3:=bcell hb d3
           replace WB5:=WB5.below hb
           replace D5:=D5.below hb
           replace G5:=G5.below hb
           replace R5:=R5.below hb
           replace XB:=XB.below hb
           replace hgq:=gbelow hgq hb
           clear hb
           cases hn1':numP xp with
           |none=>
            rw [hn1'] at hm hNc
            obtain ⟨tp,pe,rfl⟩:=hm
            have hfin:N=none:=by rw [hNc.out];first | rfl | (cases numP xp<;>rfl) | (cases numP xp<;>cases numP xq<;>rfl)
            subst hfin
            have hfin2:I=none:=hIc.out
            subst hfin2
            have hfin3:M=none:=hMi.out
            subst hfin3
            show LastQ _ _ _ _ (.panic _) _ _
            unfold LastQ
            go_wp2
            exact ⟨rfl,⟨tp,pe,rfl⟩,gstep hgw hgq (fun k e=>by cases e;exact .inr rfl)⟩
           |some n1'=>
            rw [hn1'] at hm
            subst hm
            dsimp only
            refine hK.out _ _ ⟨XB.cell 1,d1,d2,d3⟩ (fun hHeld=>?_)
            clear hK K
            try simp only [Act.put,lsA,lsB,lsC]
            refine oneL (i:=9) (by kernel_rfl) rfl (fun K hK=>?_)
            go_simp
            refine (ai_ (bA xq) _ (by omega) G5).mono ?_
            rw [af_]
            rintro e z2 ⟨hm,hb⟩
            replace d1:=bcell hb d1
            replace d2:=bcell hb d2
            replace d3:=bcell hb d3
            replace WB5:=WB5.below hb
            replace D5:=D5.below hb
            replace G5:=G5.below hb
            replace R5:=R5.below hb
            replace XB:=XB.below hb
            replace hgq:=gbelow hgq hb
            clear hb
            cases hn2':numP xq with
            |none=>
             rw [hn2'] at hm hNc
             obtain ⟨tp,pe,rfl⟩:=hm
             have hfin:N=none:=by rw [hNc.out];first | rfl | (cases numP xp<;>rfl) | (cases numP xp<;>cases numP xq<;>rfl)
             subst hfin
             have hfin2:I=none:=hIc.out
             subst hfin2
             have hfin3:M=none:=hMi.out
             subst hfin3
             show LastQ _ _ _ _ (.panic _) _ _
             unfold LastQ
             go_wp2
             exact ⟨rfl,⟨tp,pe,rfl⟩,gstep hgw hgq (fun k e=>by cases e;exact .inr rfl)⟩
            |some n2'=>
             rw [hn2'] at hm
             subst hm
             dsimp only
             refine hK.out _ _ ⟨XB.cell 1,d1,d2,d3⟩ (fun hHeld=>?_)
             clear hK K
             try simp only [Act.put,lsA,lsB,lsC]
             refine oneL (i:=13) (by kernel_rfl) rfl (fun K hK=>?_)
             go_simp
             refine (ai_ (bA xs) _ (by omega) G5).mono ?_
             rw [af_]
             rintro e z3 ⟨hm,hb⟩
             replace d1:=bcell hb d1
             replace d2:=bcell hb d2
             replace d3:=bcell hb d3
             replace WB5:=WB5.below hb
             replace D5:=D5.below hb
             replace G5:=G5.below hb
             replace R5:=R5.below hb
             replace XB:=XB.below hb
             replace hgq:=gbelow hgq hb
             clear hb
             cases hn3':numP xs with
             |none=>
              rw [hn3'] at hm hNc
              obtain ⟨tp,pe,rfl⟩:=hm
              have hfin:N=none:=by rw [hNc.out];first | rfl | (cases numP xp<;>rfl) | (cases numP xp<;>cases numP xq<;>rfl)
              subst hfin
              have hfin2:I=none:=hIc.out
              subst hfin2
              have hfin3:M=none:=hMi.out
              subst hfin3
              show LastQ _ _ _ _ (.panic _) _ _
              unfold LastQ
              go_wp2
              exact ⟨rfl,⟨tp,pe,rfl⟩,gstep hgw hgq (fun k e=>by cases e;exact .inr rfl)⟩
             |some n3'=>
              rw [hn3'] at hm
              subst hm
              dsimp only
              refine hK.out _ _ ⟨XB.cell 1,d1,d2,d3⟩ (fun hHeld=>?_)
              clear hK K
              try simp only [Act.put,lsA,lsB,lsC]
              refine tk 14 ?_
              refine oneL (i:=15) (by kernel_rfl) rfl (fun K hK=>?_)
              go_simp
              have hWA:Below z3.heap.size z3 (z3.alloc (.cells (Pt.cs (⟨n1',n2',n3'⟩:Pt)).toArray tP)):=(Below.refl _ _).alloc (Nat.le_refl _) _
              have L4:=bi_ fh_ z3 (⟨n1',n2',n3'⟩:Pt) tP _ rfl
              replace d1:=bcell hWA d1
              replace d2:=bcell hWA d2
              replace d3:=bcell hWA d3
              replace WB5:=WB5.below hWA
              replace D5:=D5.below hWA
              replace R5:=R5.below hWA
              replace XB:=XB.below hWA
              replace hgq:=gbelow hgq hWA
              change K _ (z3.alloc (.cells (Pt.cs (⟨n1',n2',n3'⟩:Pt)).toArray tP))
              generalize z3.alloc (.cells (Pt.cs (⟨n1',n2',n3'⟩:Pt)).toArray tP)=z4 at *
              clear hWA
              refine hK.out _ _ ⟨XB.cell 1,d1,d2,d3⟩ (fun hHeld=>?_)
              clear hK K
              try simp only [Act.put,lsA,lsB,lsC]
              refine oneL (i:=16) (by kernel_rfl) rfl (fun K hK=>?_)
              refine aD_ rfl (bh_ _ _ 137 rfl wo.heap.size tP i1 (.agg #[.int .i64 0,.int .i64 0,.int .i64 0]) 24 Tryz.underlying137 hj0 hy0 hy1 hy2 rfl (by decide) fh_ la_ pa pn pc _ rfl R5 _ 1 1 [(⟨n1',n2',n3'⟩:Pt)] rfl L4 (fun ad h=>(by cases h;rfl)) (fun h=>(by cases h)) (pn+1) rfl (by unfold maxLen;omega) (by omega) (by have:=hgq.size;omega) (fun a4 cap4 w4 R4 hg4 hf4=>?_))
              have hty:=R5.rowTy (m:=pn) (k:=pc)
              have XB6:=XB.ty hg4 hty (by decide)
              have D6:=D5.ty hg4 hty (by decide) (by decide)
              have WB6:=WB5.ty hg4 hty (by decide)
              have e1:w4.cell? ⟨wb2,1,none⟩=some (.string (bA xp)):=by rw [WB6.cell,<-WB5.cell];exact d1
              have e2:w4.cell? ⟨wb2,2,none⟩=some (.string (bA xq)):=by rw [WB6.cell,<-WB5.cell];exact d2
              have e3:w4.cell? ⟨wb2,3,none⟩=some (.string (bA xs)):=by rw [WB6.cell,<-WB5.cell];exact d3
              have hgq6:=gstep hgq hg4 (fun k e=>.inl (bj_ (fun ad e=>(R5.block ad e).1) k e))
              have hN6:Hid (N=(manyP partK ptP r3).map fun q=>((ps++[(⟨n1',n2',n3'⟩:Pt)])++q.1,q.2)):=by
               show _=_
               rw [hNc.out,hn1',hn2',hn3']
               show (manyP partK ptP r3).map _=_
               simp
              refine hK.out _ _ ⟨XB6.cell 1,e1,e2,e3⟩ (fun hHeld=>?_)
              clear hK K
              try simp only [Act.put,lsA,lsB,lsC]
              refine tk 17 ?_
              have p1:=XB6.cell 1
              have q1:=XB6.frozen 1
              clear hty hg4 hf4 XB R5 D5 WB5 WB6 d1 d2 d3 e1 e2 e3 hgq L4 G5 hHeld
              refine wpAnyH_done (by kernel_rfl) ?_ _
              refine lastL rfl ?_
              go_wp2
              have hgx:w4.grownBy (w4.setCell ⟨xb,1,none⟩ (.slice a4 (pn+1) cap4)) (some xb):=ac_ (World.grownBy.refl _ _) _ _
              have htx:=ap_ XB6
              have X9:Blk (w4.setCell ⟨xb,1,none⟩ (.slice a4 (pn+1) cap4)) xb #[.string inm,.slice a4 (pn+1) cap4] tI:=by simpa using XB6.set 1 (.slice a4 (pn+1) cap4)
              have R9:=R4.ty hgx htx (by decide)
              have D9:=D6.ty hgx htx (by decide) (by decide)
              have hgq9:=gstep hgq6 hgx (fun k e=>by cases e;exact .inl hxl)
              generalize w4.setCell ⟨xb,1,none⟩ (.slice a4 (pn+1) cap4)=W9 at *
              go_roundw
              case rel=>exact ⟨ps++[(⟨n1',n2',n3'⟩:Pt)],r3,a4,pn+1,cap4,X9,R9,D9,by omega,hN6,hgq9⟩
              case measure=>(rw [D9.len,D50.len];simp)
end Go.Proofs.YtigldeccfpkdmaaGreatDoor
