/- A pool read by the program. -/
import Derived.Test.YtigldeccfpkdmaaGreatDoorK38
import Derived.Test.YtigldeccfpkdmaaGreatDoorK34
namespace Go.Proofs.YtigldeccfpkdmaaGreatDoor
open Go Go.RowKit Go.BigFrame
set_option maxHeartbeats 20000000
set_option maxRecDepth 100000
abbrev tPo:TypeId:=26
theorem blk6 {w:World} {b:Nat} {c0 c1 c2 c3 c4 c5:Value} {t:TypeId} (h:Blk w b #[c0,c1,c2,c3,c4,c5] t):w.cell? ⟨b,0,none⟩=some c0∧w.cell? ⟨b,1,none⟩=some c1∧w.cell? ⟨b,2,none⟩=some c2∧w.cell? ⟨b,3,none⟩=some c3∧w.cell? ⟨b,4,none⟩=some c4∧w.cell? ⟨b,5,none⟩=some c5:=h.sixM
theorem put6F {w:World} {b:Nat} {c0 c1 c2 c3 c4 c5:Value} {t:TypeId} (h:Blk w b #[c0,c1,c2,c3,c4,c5] t) (x0 x1 x2 x3 x4 x5:Value):Blk ((((((w.setCell ⟨b,0,none⟩ x0).setCell ⟨b,1,none⟩ x1).setCell ⟨b,2,none⟩ x2).setCell ⟨b,3,none⟩ x3).setCell ⟨b,4,none⟩ x4).setCell ⟨b,5,none⟩ x5) b #[x0,x1,x2,x3,x4,x5] t∧w.grownBy ((((((w.setCell ⟨b,0,none⟩ x0).setCell ⟨b,1,none⟩ x1).setCell ⟨b,2,none⟩ x2).setCell ⟨b,3,none⟩ x3).setCell ⟨b,4,none⟩ x4).setCell ⟨b,5,none⟩ x5) (some b):=
 ⟨by have:=(((((h.set 0 x0).set 1 x1).set 2 x2).set 3 x3).set 4 x4).set 5 x5;simpa using this,ac_ (ac_ (ac_ (ac_ (ac_ (ac_ (World.grownBy.refl _ _) _ _) _ _) _ _) _ _) _ _) _ _⟩
theorem VoR.offB {w w':World} {B b:Nat} {r:VR} {v:Vo} (h:VoR w B r v) (hg:w.grownBy w' (some b)) (hb:b<B):VoR w' B r v:=⟨h.id,h.nm,h.fx,h.rows.offB hg hb,h.its.imp fun _ _ _ h=>h.offB hg hb⟩
theorem lP_ {w:World} {B:Nat}:∀ {l:List IR} {m:List It},Al2 (ItR w B) l m->∀ b∈l.filterMap (fun x=>blkO x.a),B<=b
 |_,_,.nil,b,hb=>by simp at hb
 |r::l,_,.cons hr ht,b,hb=>by
  obtain ⟨x,hx,e⟩:=List.mem_filterMap.1 hb
  rcases List.mem_cons.1 hx with rfl | hx
  ·cases ha:x.a with
   |none=>rw [ha] at e;cases e
   |some ad=>
    rw [ha] at e
    obtain rfl:=Option.some.inj e
    exact (hr.ps.block ad ha).1
  ·exact lP_ ht b (List.mem_filterMap.2 ⟨x,hx,e⟩)
def fC (n1 n2:Int) (ex:List Ex) (vs:List Vo) (rest:List By):Option (Po×List By):=(manyP refK ctP rest).bind fun c=>(manyP lateK ctP c.2).map fun d=>(⟨n1,n2,ex,vs,c.1,d.1⟩,d.2)
def fV (n1 n2:Int) (ex:List Ex) (rest:List By):Option (Po×List By):=(volsP rest.length rest).bind fun b=>fC n1 n2 ex b.1 b.2
theorem kY_ {ls:List By} (h:takP poolK 2 ls=none):poolP ls=none:=by
 cases ls with
 |nil=>rfl
 |cons l r=>
  rw [poolP]
  split
  ·next ha=>rw [oT_ ha h];rfl
  ·rfl
theorem kZ_ {ls:List By} {q:List By×List By} (h:takP poolK 2 ls=some q):∃ l r a b,ls=l::r∧q=([a,b],r)∧poolP ls=((numP a).bind fun a=>(numP b).map fun b=>(a,b)).bind fun h=>(manyP exK exP r).bind fun x=>fV h.1 h.2 x.1 x.2:=by
 cases ls with
 |nil=>cases h
 |cons l r=>
  cases ha:ahP poolK l with
  |false=>
   have:takP poolK 2 (l::r)=none:=by
    show (if ahP poolK l=true then _ else none)=_
    rw [ha];rfl
   rw [this] at h;cases h
  |true=>
   obtain ⟨a,b,e,h2⟩:=oU_ ha h
   refine ⟨l,r,a,b,rfl,e,?_⟩
   rw [poolP,if_pos ha,h2]
   rfl
theorem k0_ (rb:Nat) (ls:List By) (w:World) (h:RdAt w rb ls) (hG:Glb w) (hrb:9<=rb) (hl:ls.length<=60000) :
  Calls Tryz.prog 40 #[.pointer (some ⟨rb,0,none⟩)] w fun e w'=>(match poolP ls with
   |none=>Pan e
   |some q=>∃ v,e=.returned v∧PoolM w.heap.size w' v q.1∧RdAt w' rb q.2)∧w.grownBy w' (some rb):=by
 obtain ⟨M,hM⟩:∃ M,Hid (poolP ls=M):=⟨_,rfl⟩
 rw [hM.out]
 have hlt:=h.lt
 obtain ⟨i0,hi0,hz0,hz1,hz2⟩:=info_parts infME
 obtain ⟨i1,hj0,hy0,hy1,hy2⟩:=info_parts infMV
 have hA0:Below w.heap.size w (w.alloc (.cells #[.int .i64 0,.int .i64 0,.slice none 0 0,.slice none 0 0,.slice none 0 0,.slice none 0 0] tPo)):=(Below.refl _ _).alloc (Nat.le_refl _) _
 have QB:=Blk.new w #[.int .i64 0,.int .i64 0,.slice none 0 0,.slice none 0 0,.slice none 0 0,.slice none 0 0] tPo
 have D0:=h.below hA0
 have G0:=hG.below hA0
 have q:=bX_ rb ls ⟨#[112,111,111,108]⟩ 2 _ D0 G0 hrb (by decide) (by omega) (by omega)
 rw [show (⟨#[112,111,111,108]⟩:ByteArray).data.toList=poolK from rfl] at q
 go_enter Tryz.func40,Tryz.ntmps40
 go_wp2_with fail
 generalize w.alloc (.cells #[.int .i64 0,.int .i64 0,.slice none 0 0,.slice none 0 0,.slice none 0 0,.slice none 0 0] tPo)=W0 at *
 refine q.mono ?_
 clear q
 cases ht:takP poolK 2 ls with
 |none=>
  rintro e w2 ⟨⟨tp,pe,rfl⟩,hg2⟩
  have hfin:M=none:=by rw [<-hM.out,kY_ ht]
  subst hfin
  go_wp2
  exact ⟨rfl,⟨tp,pe,rfl⟩,gstep (a3_ hA0) hg2 (fun k e=>by cases e;exact .inr rfl)⟩
 |some qq=>
  obtain ⟨l,r,xa,xn,rfl,rfl,hpo⟩:=kZ_ ht
  obtain ⟨X,hX0⟩:∃ X,Hid (manyP exK exP r=X):=⟨_,rfl⟩
  have hMc:Hid (M=((numP xa).bind fun a=>(numP xn).map fun b=>(a,b)).bind fun h=>X.bind fun x=>fV h.1 h.2 x.1 x.2):=by
   show _=_
   rw [<-hM.out,hpo,hX0.out]
  clear hpo ht hM
  simp only [List.length_cons] at hl
  rintro e w2 ⟨⟨wb,wc,rfl,_,hcs,hwc1,hwc2,⟨wcs,WB⟩,D2⟩,hg2⟩
  obtain ⟨c1,z1⟩:=hcs 0 xa rfl
  obtain ⟨c2,z2⟩:=hcs 1 xn rfl
  simp only [Nat.zero_add,Nat.reduceAdd] at c1 c2
  clear hcs
  have G2:=G0.grown hg2 hrb
  have hgw:=gstep (a3_ (row:=some rb) hA0) hg2 (fun k e=>by cases e;exact .inr rfl)
  replace QB:=QB.grown hg2 (by simp;omega)
  have hqw:w.heap.size<w2.heap.size:=QB.lt
  clear hg2 D0 G0 hA0
  go_upto_region 2 with fail
  have hSB:∀ u,Below w2.heap.size w2 u->(fun u=>u.cell? ⟨wb,1,none⟩=some (.string (bA xa))∧u.cell? ⟨wb,2,none⟩=some (.string (bA xn))) u:=fun u hu=>⟨bcell hu c1,bcell hu c2⟩
  refine dd_ (fun u=>u.cell? ⟨wb,1,none⟩=some (.string (bA xa))∧u.cell? ⟨wb,2,none⟩=some (.string (bA xn))) 11 [7,8,9,10,11,12,13,14,15,4] (fun x u=>∃ pb n1 n2,numP xa=some n1∧x 4=.pointer (some ⟨pb,0,none⟩)∧numP xn=some n2∧Blk u pb #[.int .i64 n1,.int .i64 n2,.slice none 0 0,.slice none 0 0,.slice none 0 0,.slice none 0 0] tPo∧Below w2.heap.size w2 u∧w2.heap.size<=pb) (fun c u=>(∃ tp pe,c=[{v:=.iface tp pe,recovered:=false}])∧Below w2.heap.size w2 u∧(numP xa=none∨numP xn=none)) (by kernel_rfl) rfl ?walk2 ?rest2 ?pan2
  case walk2=>
   have hWd:Below w2.heap.size w2 w2.drew:=(Below.refl _ _).drew
   generalize w2.drew=WD at hWd ⊢
   have hS0:=hSB WD hWd
   refine tkp 0 ?_
   refine tkp 1 ?_
   refine tkp 2 ?_
   refine tkp 4 ?_
   refine tkp 5 ?_
   refine tkp 6 ?_
   refine twoLJ (i:=3) (j:=9) (by kernel_rfl) rfl rfl (fun K hK=>?_) (fun K hK=>?_)
   ·skip
    go_simp
    refine (ai_ (bA xa) _ (by omega) (G2.below hWd)).mono ?_
    rw [af_]
    rintro e u1 ⟨hm,hb⟩
    have hU1:=chain hWd hb
    try replace FB:=FB.below hb
    clear hb
    cases hn1:numP xa with
    |none=>
     rw [hn1] at hm
     obtain ⟨tp,pe,rfl⟩:=hm
     exact ⟨rfl,⟨tp,pe,rfl⟩,hU1,(by first | exact .inl hn1 | rfl | exact .inl rfl)⟩
    |some n1=>
     rw [hn1] at hm
     subst hm
     dsimp only
     refine hK.out _ _ (hSB u1 hU1) (fun hHeld=>?_)
     clear hK K
     try simp only [Act.put,lsA,lsB,lsC]
     refine twoLJ (i:=7) (j:=9) (by kernel_rfl) rfl rfl (fun K hK=>?_) (fun K hK=>?_)
     ·skip
      go_simp
      refine (ai_ (bA xn) _ (by omega) (G2.below hU1)).mono ?_
      rw [af_]
      rintro e u2 ⟨hm,hb⟩
      have hU2:=chain hU1 hb
      try replace FB:=FB.below hb
      clear hb
      cases hn2:numP xn with
      |none=>
       rw [hn2] at hm
       obtain ⟨tp,pe,rfl⟩:=hm
       exact ⟨rfl,⟨tp,pe,rfl⟩,hU2,(by first | exact .inr hn2 | rfl | exact .inr rfl)⟩
      |some n2=>
       rw [hn2] at hm
       subst hm
       dsimp only
       refine hK.out _ _ (hSB u2 hU2) (fun hHeld=>?_)
       clear hK K
       try simp only [Act.put,lsA,lsB,lsC]
       refine tkp 8 ?_
       refine oneL (i:=9) (by kernel_rfl) rfl (fun K hK=>?_)
       go_simp
       have hbu:Below u2.heap.size u2 (u2.alloc (.cells #[.int .i64 0,.int .i64 0,.slice none 0 0,.slice none 0 0,.slice none 0 0,.slice none 0 0] tPo)):=(Below.refl _ _).alloc (Nat.le_refl _) _
       obtain ⟨ob,hob0⟩:∃ ob,ob=u2.heap.size:=⟨_,rfl⟩
       have FB:Blk (u2.alloc (.cells #[.int .i64 0,.int .i64 0,.slice none 0 0,.slice none 0 0,.slice none 0 0,.slice none 0 0] tPo)) ob #[.int .i64 0,.int .i64 0,.slice none 0 0,.slice none 0 0,.slice none 0 0,.slice none 0 0] tPo:=Blk.new' _ _ _ _ hob0
       have hfl:Hid (w2.heap.size<=ob):=by show _<=_;rw [hob0];exact hU2.size
       rw [<-hob0]
       clear hob0
       have hU3:=chain hU2 hbu
       clear hbu
       refine hK.out _ _ (hSB _ hU3) (fun hHeld=>?_)
       clear hK K
       try simp only [Act.put,lsA,lsB,lsC]
       generalize u2.alloc (.cells #[.int .i64 0,.int .i64 0,.slice none 0 0,.slice none 0 0,.slice none 0 0,.slice none 0 0] tPo)=u3 at *
       obtain ⟨t0,t1,t2,t3,t4,t5⟩:=blk6 FB
       obtain ⟨s0,s1,s2,s3,s4,s5⟩:=fz6 FB
       refine oneL (i:=10) (by kernel_rfl) rfl (fun K hK=>?_)
       go_simp
       obtain ⟨F9,hg9⟩:=put6F FB (.int .i64 n1) (.int .i64 n2) (.slice none 0 0) (.slice none 0 0) (.slice none 0 0) (.slice none 0 0)
       have hU9:=am_ hU3 hg9 hfl.out
       refine hK.out _ _ (hSB _ hU9) (fun hHeld=>?_)
       clear hK K
       try simp only [Act.put,lsA,lsB,lsC]
       refine wpAnyH_done (by kernel_rfl) ?_ _
       refine bo_ (by simp only [putAll,List.foldl_cons,List.foldl_nil,Act.put,Act.eval,List.setIfInBounds_toArray,List.set_cons_zero,List.set_cons_succ,Array.getD_eq_getD_getElem?,List.getElem?_toArray,List.getElem?_cons_succ,List.getElem?_cons_zero,Option.getD_some]) ?_
       exact ⟨ob,n1,n2,(by first | exact hn1 | rfl),(by simp only [Act.eval,Array.getD_eq_getD_getElem?,List.getElem?_toArray,List.getElem?_cons_succ,List.getElem?_cons_zero,Option.getD_some]),(by first | exact hn2 | rfl),F9,hU9,hfl.out⟩
     ·skip
      go_simp
      have hbu:Below u1.heap.size u1 (u1.alloc (.cells #[.int .i64 0,.int .i64 0,.slice none 0 0,.slice none 0 0,.slice none 0 0,.slice none 0 0] tPo)):=(Below.refl _ _).alloc (Nat.le_refl _) _
      obtain ⟨ob,hob0⟩:∃ ob,ob=u1.heap.size:=⟨_,rfl⟩
      have FB:Blk (u1.alloc (.cells #[.int .i64 0,.int .i64 0,.slice none 0 0,.slice none 0 0,.slice none 0 0,.slice none 0 0] tPo)) ob #[.int .i64 0,.int .i64 0,.slice none 0 0,.slice none 0 0,.slice none 0 0,.slice none 0 0] tPo:=Blk.new' _ _ _ _ hob0
      have hfl:Hid (w2.heap.size<=ob):=by show _<=_;rw [hob0];exact hU1.size
      rw [<-hob0]
      clear hob0
      have hU2:=chain hU1 hbu
      clear hbu
      refine hK.out _ _ (hSB _ hU2) (fun hHeld=>?_)
      clear hK K
      try simp only [Act.put,lsA,lsB,lsC]
      generalize u1.alloc (.cells #[.int .i64 0,.int .i64 0,.slice none 0 0,.slice none 0 0,.slice none 0 0,.slice none 0 0] tPo)=u2 at *
      refine oneL (i:=7) (by kernel_rfl) rfl (fun K hK=>?_)
      go_simp
      refine (ai_ (bA xn) _ (by omega) (G2.below hU2)).mono ?_
      rw [af_]
      rintro e u3 ⟨hm,hb⟩
      have hU3:=chain hU2 hb
      try replace FB:=FB.below hb
      clear hb
      cases hn2:numP xn with
      |none=>
       rw [hn2] at hm
       obtain ⟨tp,pe,rfl⟩:=hm
       exact ⟨rfl,⟨tp,pe,rfl⟩,hU3,(by first | exact .inr hn2 | rfl | exact .inr rfl)⟩
      |some n2=>
       rw [hn2] at hm
       subst hm
       dsimp only
       refine hK.out _ _ (hSB u3 hU3) (fun hHeld=>?_)
       clear hK K
       try simp only [Act.put,lsA,lsB,lsC]
       refine tkp 8 ?_
       obtain ⟨t0,t1,t2,t3,t4,t5⟩:=blk6 FB
       obtain ⟨s0,s1,s2,s3,s4,s5⟩:=fz6 FB
       refine oneL (i:=10) (by kernel_rfl) rfl (fun K hK=>?_)
       go_simp
       obtain ⟨F9,hg9⟩:=put6F FB (.int .i64 n1) (.int .i64 n2) (.slice none 0 0) (.slice none 0 0) (.slice none 0 0) (.slice none 0 0)
       have hU9:=am_ hU3 hg9 hfl.out
       refine hK.out _ _ (hSB _ hU9) (fun hHeld=>?_)
       clear hK K
       try simp only [Act.put,lsA,lsB,lsC]
       refine wpAnyH_done (by kernel_rfl) ?_ _
       refine bo_ (by simp only [putAll,List.foldl_cons,List.foldl_nil,Act.put,Act.eval,List.setIfInBounds_toArray,List.set_cons_zero,List.set_cons_succ,Array.getD_eq_getD_getElem?,List.getElem?_toArray,List.getElem?_cons_succ,List.getElem?_cons_zero,Option.getD_some]) ?_
       exact ⟨ob,n1,n2,(by first | exact hn1 | rfl),(by simp only [Act.eval,Array.getD_eq_getD_getElem?,List.getElem?_toArray,List.getElem?_cons_succ,List.getElem?_cons_zero,Option.getD_some]),(by first | exact hn2 | rfl),F9,hU9,hfl.out⟩
   ·skip
    go_simp
    have hbu:Below WD.heap.size WD (WD.alloc (.cells #[.int .i64 0,.int .i64 0,.slice none 0 0,.slice none 0 0,.slice none 0 0,.slice none 0 0] tPo)):=(Below.refl _ _).alloc (Nat.le_refl _) _
    obtain ⟨ob,hob0⟩:∃ ob,ob=WD.heap.size:=⟨_,rfl⟩
    have FB:Blk (WD.alloc (.cells #[.int .i64 0,.int .i64 0,.slice none 0 0,.slice none 0 0,.slice none 0 0,.slice none 0 0] tPo)) ob #[.int .i64 0,.int .i64 0,.slice none 0 0,.slice none 0 0,.slice none 0 0,.slice none 0 0] tPo:=Blk.new' _ _ _ _ hob0
    have hfl:Hid (w2.heap.size<=ob):=by show _<=_;rw [hob0];exact hWd.size
    rw [<-hob0]
    clear hob0
    have hU1:=chain hWd hbu
    clear hbu
    refine hK.out _ _ (hSB _ hU1) (fun hHeld=>?_)
    clear hK K
    try simp only [Act.put,lsA,lsB,lsC]
    generalize WD.alloc (.cells #[.int .i64 0,.int .i64 0,.slice none 0 0,.slice none 0 0,.slice none 0 0,.slice none 0 0] tPo)=u1 at *
    refine oneL (i:=3) (by kernel_rfl) rfl (fun K hK=>?_)
    go_simp
    refine (ai_ (bA xa) _ (by omega) (G2.below hU1)).mono ?_
    rw [af_]
    rintro e u2 ⟨hm,hb⟩
    have hU2:=chain hU1 hb
    try replace FB:=FB.below hb
    clear hb
    cases hn1:numP xa with
    |none=>
     rw [hn1] at hm
     obtain ⟨tp,pe,rfl⟩:=hm
     exact ⟨rfl,⟨tp,pe,rfl⟩,hU2,(by first | exact .inl hn1 | rfl | exact .inl rfl)⟩
    |some n1=>
     rw [hn1] at hm
     subst hm
     dsimp only
     refine hK.out _ _ (hSB u2 hU2) (fun hHeld=>?_)
     clear hK K
     try simp only [Act.put,lsA,lsB,lsC]
     refine oneL (i:=7) (by kernel_rfl) rfl (fun K hK=>?_)
     go_simp
     refine (ai_ (bA xn) _ (by omega) (G2.below hU2)).mono ?_
     rw [af_]
     rintro e u3 ⟨hm,hb⟩
     have hU3:=chain hU2 hb
     try replace FB:=FB.below hb
     clear hb
     cases hn2:numP xn with
     |none=>
      rw [hn2] at hm
      obtain ⟨tp,pe,rfl⟩:=hm
      exact ⟨rfl,⟨tp,pe,rfl⟩,hU3,(by first | exact .inr hn2 | rfl | exact .inr rfl)⟩
     |some n2=>
      rw [hn2] at hm
      subst hm
      dsimp only
      refine hK.out _ _ (hSB u3 hU3) (fun hHeld=>?_)
      clear hK K
      try simp only [Act.put,lsA,lsB,lsC]
      refine tkp 8 ?_
      obtain ⟨t0,t1,t2,t3,t4,t5⟩:=blk6 FB
      obtain ⟨s0,s1,s2,s3,s4,s5⟩:=fz6 FB
      refine oneL (i:=10) (by kernel_rfl) rfl (fun K hK=>?_)
      go_simp
      obtain ⟨F9,hg9⟩:=put6F FB (.int .i64 n1) (.int .i64 n2) (.slice none 0 0) (.slice none 0 0) (.slice none 0 0) (.slice none 0 0)
      have hU9:=am_ hU3 hg9 hfl.out
      refine hK.out _ _ (hSB _ hU9) (fun hHeld=>?_)
      clear hK K
      try simp only [Act.put,lsA,lsB,lsC]
      refine wpAnyH_done (by kernel_rfl) ?_ _
      refine bo_ (by simp only [putAll,List.foldl_cons,List.foldl_nil,Act.put,Act.eval,List.setIfInBounds_toArray,List.set_cons_zero,List.set_cons_succ,Array.getD_eq_getD_getElem?,List.getElem?_toArray,List.getElem?_cons_succ,List.getElem?_cons_zero,Option.getD_some]) ?_
      exact ⟨ob,n1,n2,(by first | exact hn1 | rfl),(by simp only [Act.eval,Array.getD_eq_getD_getElem?,List.getElem?_toArray,List.getElem?_cons_succ,List.getElem?_cons_zero,Option.getD_some]),(by first | exact hn2 | rfl),F9,hU9,hfl.out⟩
  case pan2=>
   rintro c a' u hd ⟨⟨tp,pe,rfl⟩,hU,hno⟩
   have hfin:M=none:=by
    rw [hMc.out]
    rcases hno with h | h
    ·rw [h];rfl
    ·rw [h];cases numP xa<;>rfl
   subst hfin
   go_wp2
   exact ⟨hd,⟨tp,pe,rfl⟩,gbelow hgw hU⟩
  case rest2=>
   rintro x u ⟨pb,n1,n2,hn1,e4,hn2,PB,hU,hpl⟩
   rw [hn1,hn2] at hMc
   have hMx:Hid (M=X.bind fun x=>fV n1 n2 x.1 x.2):=hMc.out
   simp only [putAll,List.foldl_cons,List.foldl_nil,e4]
   try simp only [Act.put,lsA,lsB,lsC]
   generalize x 7=s7;generalize x 8=s8;generalize x 9=s9;generalize x 10=s10;generalize x 11=s11;generalize x 12=s12;generalize x 13=s13;generalize x 14=s14;generalize x 15=s15
   clear e4 x hMc
   replace D2:=D2.below hU
   replace QB:=QB.below hU
   replace hgw:=gbelow hgw hU
   clear c1 c2 hSB hn1 hn2 hU G2 WB
   go_wp2_with fail
   go_loopw [3] (fun _ wr=>∃ (ex:List Ex) (rest:List By) (ea:Option Addr) (en ec:Nat),Blk wr pb #[.int .i64 n1,.int .i64 n2,.slice ea en ec,.slice none 0 0,.slice none 0 0,.slice none 0 0] tPo∧Blk wr w.heap.size #[.int .i64 0,.int .i64 0,.slice none 0 0,.slice none 0 0,.slice none 0 0,.slice none 0 0] tPo∧ResAt Ex.cs 2 tE wr w.heap.size ea en ec ex∧RdAt wr rb rest∧en+rest.length<=60000∧Hid (X=(manyP exK exP rest).map fun q=>(ex++q.1,q.2))∧w.grownBy wr (some rb)) (fun _ wr=>lnV (wr.cell? ⟨rb,0,none⟩))
   case atStart=>exact ⟨[],r,none,0,0,PB,QB,aL_,D2,by omega,by show _=_;rw [<-hX0.out];cases manyP exK exP r<;>rfl,hgw⟩
   case round=>
    clear PB QB D2 hgw
    obtain ⟨ex,rest,ea,en,ec,PB,QB,RE,D,hn,hX,hgw⟩:=hrel
    have G:=hG.grown hgw hrb
    have hws:=hgw.size
    have qa:=bu_ rb rest ⟨#[101,120,116,101,110,116]⟩ wr D (by decide)
    rw [show (⟨#[101,120,116,101,110,116]⟩:ByteArray).data.toList=exK from rfl] at qa
    go_wp2_with fail
    refine qa.mono ?_
    rintro e w1 ⟨rfl,hw1⟩
    obtain rfl:wr=w1:=hw1.symm
    clear qa
    cases hah:ahL exK rest with
    |true=>
     cases rest with
     |nil=>cases hah
     |cons l2 r2=>
      have hal:ahP exK l2=true:=hah
      have q:=bX_ rb (l2::r2) ⟨#[101,120,116,101,110,116]⟩ 2 wr D G hrb (by decide) (by omega) (by omega)
      rw [show (⟨#[101,120,116,101,110,116]⟩:ByteArray).data.toList=exK from rfl] at q
      simp only [List.length_cons] at hn
      have hXx:=hX.out
      rw [dv_ hal] at hXx
      cases ht:takP exK 2 (l2::r2) with
      |none=>
       rw [ht] at q
       rw [oV_ hal ht] at hXx
       have hXf:X=none:=hXx
       subst hXf
       have hfin:M=none:=hMx.out
       subst hfin
       go_wp2_with fail
       refine q.mono ?_
       rintro e w2 ⟨⟨tp,pe,rfl⟩,hg2⟩
       go_wp2
       exact ⟨rfl,⟨tp,pe,rfl⟩,gstep hgw hg2 (fun k e=>by cases e;exact .inr rfl)⟩
      |some qq=>
       rw [ht] at q
       obtain ⟨xb,xd,rfl,hex⟩:=oW_ hal ht
       rw [hex] at hXx
       have hXc:Hid (X=((numP xb).map fun n=>(⟨n,bA xd⟩:Ex)).bind fun x=>(manyP exK exP r2).map fun q=>(ex++x::q.1,q.2)):=by
        show _=_
        rw [hXx]
        generalize ((numP xb).map fun n=>(⟨n,bA xd⟩:Ex))=o
        cases o with
        |none=>rfl
        |some x=>cases manyP exK exP r2<;>rfl
       clear hXx hex hX hah ht
       go_wp2_with fail
       refine q.mono ?_
       rintro e w5 ⟨⟨wb2,wc2,rfl,_,hcs,hwf1,hwf2,⟨wcs2,WB5⟩,D5⟩,hg5⟩
       obtain ⟨d1,y1⟩:=hcs 0 xb rfl
       obtain ⟨d2,y2⟩:=hcs 1 xd rfl
       simp only [Nat.zero_add,Nat.reduceAdd] at d1 d2
       clear hcs q
       replace G:=G.grown hg5 hrb
       replace PB:=PB.grown hg5 (by simp;omega)
       replace QB:=QB.grown hg5 (by simp;omega)
       replace RE:=RE.offB hg5 hlt
       replace hgw:=gstep hgw hg5 (fun k e=>by cases e;exact .inr rfl)
       clear hg5
       go_upto_region 5 with fail
       have hWd:Below w5.heap.size w5 w5.drew:=(Below.refl _ _).drew
       replace d1:=bcell hWd d1
       replace d2:=bcell hWd d2
       replace WB5:=WB5.below hWd
       replace D5:=D5.below hWd
       replace G:=G.below hWd
       replace RE:=RE.below hWd
       replace PB:=PB.below hWd
       replace QB:=QB.below hWd
       replace hgw:=gbelow hgw hWd
       have hS0:(fun u=>u.cell? ⟨pb,2,none⟩=some (.slice ea en ec)∧u.cell? ⟨wb2,1,none⟩=some (.string (bA xb))∧u.cell? ⟨wb2,2,none⟩=some (.string (bA xd))) w5.drew:=⟨PB.cell 2,d1,d2⟩
       refine ax_ (S:=(fun u=>u.cell? ⟨pb,2,none⟩=some (.slice ea en ec)∧u.cell? ⟨wb2,1,none⟩=some (.string (bA xb))∧u.cell? ⟨wb2,2,none⟩=some (.string (bA xd)))) 13 (by kernel_rfl) (by kernel_rfl) ?_
       generalize w5.drew=y0 at *
       clear hWd
       refine tk 0 ?_
       refine tk 1 ?_
       refine tk 2 ?_
       refine tk 3 ?_
       refine tk 4 ?_
       refine tk 6 ?_
       refine tk 7 ?_
       refine tk 8 ?_
       refine oneL (i:=5) (by kernel_rfl) rfl (fun K hK=>?_)
       go_simp
       refine (ai_ (bA xb) _ (by omega) G).mono ?_
       rw [af_]
       rintro e z3 ⟨hm,hb⟩
       replace d1:=bcell hb d1
       replace d2:=bcell hb d2
       replace WB5:=WB5.below hb
       replace D5:=D5.below hb
       replace RE:=RE.below hb
       replace PB:=PB.below hb
       replace QB:=QB.below hb
       replace hgw:=gbelow hgw hb
       clear hb
       cases hm1:numP xb with
       |none=>
        rw [hm1] at hm hXc
        obtain ⟨tp,pe,rfl⟩:=hm
        have hXf:X=none:=hXc.out
        subst hXf
        have hfin:M=none:=hMx.out
        subst hfin
        show LastQ _ _ _ _ (.panic _) _ _
        unfold LastQ
        go_wp2
        exact ⟨rfl,⟨tp,pe,rfl⟩,hgw⟩
       |some m1=>
        rw [hm1] at hm
        subst hm
        dsimp only
        refine hK.out _ _ ⟨PB.cell 2,d1,d2⟩ (fun hHeld=>?_)
        clear hK K
        try simp only [Act.put,lsA,lsB,lsC]
        refine tk 9 ?_
        refine oneL (i:=10) (by kernel_rfl) rfl (fun K hK=>?_)
        go_simp
        have hWA:Below z3.heap.size z3 (z3.alloc (.cells (Ex.cs (⟨m1,bA xd⟩:Ex)).toArray tE)):=(Below.refl _ _).alloc (Nat.le_refl _) _
        have L4:=bi_ fe_ z3 (⟨m1,bA xd⟩:Ex) tE _ rfl
        replace d1:=bcell hWA d1
        replace d2:=bcell hWA d2
        replace WB5:=WB5.below hWA
        replace D5:=D5.below hWA
        replace RE:=RE.below hWA
        replace PB:=PB.below hWA
        replace QB:=QB.below hWA
        replace hgw:=gbelow hgw hWA
        change K _ (z3.alloc (.cells (Ex.cs (⟨m1,bA xd⟩:Ex)).toArray tE))
        generalize z3.alloc (.cells (Ex.cs (⟨m1,bA xd⟩:Ex)).toArray tE)=z4 at *
        clear hWA
        refine hK.out _ _ ⟨PB.cell 2,d1,d2⟩ (fun hHeld=>?_)
        clear hK K
        try simp only [Act.put,lsA,lsB,lsC]
        refine oneL (i:=11) (by kernel_rfl) rfl (fun K hK=>?_)
        refine aD_ rfl (bh_ _ _ 22 rfl w.heap.size tE i0 (.agg #[.int .i64 0,.string .empty]) 24 Tryz.underlying22 hi0 hz0 hz1 hz2 rfl (by decide) fe_ lp_ ea en ec _ rfl RE _ 1 1 [(⟨m1,bA xd⟩:Ex)] rfl L4 (fun ad h=>(by cases h;rfl)) (fun h=>(by cases h)) (en+1) rfl (by unfold maxLen;omega) (by omega) (by have:=hgw.size;omega) (fun a4 cap4 w4 R4 hg4 hf4=>?_))
        have hty:=RE.rowTy (m:=en) (k:=ec)
        have PB6:=PB.ty hg4 hty (by decide)
        have QB6:=QB.ty hg4 hty (by decide)
        have D6:=D5.ty hg4 hty (by decide) (by decide)
        have WB6:=WB5.ty hg4 hty (by decide)
        have e1:w4.cell? ⟨wb2,1,none⟩=some (.string (bA xb)):=by rw [WB6.cell,<-WB5.cell];exact d1
        have e2:w4.cell? ⟨wb2,2,none⟩=some (.string (bA xd)):=by rw [WB6.cell,<-WB5.cell];exact d2
        have hgw6:=gstep hgw hg4 (fun k e=>.inl (bj_ (fun ad e=>(RE.block ad e).1) k e))
        have hX6:Hid (X=(manyP exK exP r2).map fun q=>((ex++[(⟨m1,bA xd⟩:Ex)])++q.1,q.2)):=by
         show _=_
         rw [hXc.out,hm1]
         show (manyP exK exP r2).map _=_
         simp
        refine hK.out _ _ ⟨PB6.cell 2,e1,e2⟩ (fun hHeld=>?_)
        clear hK K
        try simp only [Act.put,lsA,lsB,lsC]
        refine tk 12 ?_
        have p1:=PB6.cell 2
        have q1:=PB6.frozen 2
        clear hty hg4 hf4 PB QB RE D5 WB5 WB6 d1 d2 e1 e2 hgw L4 G hHeld
        refine wpAnyH_done (by kernel_rfl) ?_ _
        refine lastL rfl ?_
        go_wp2
        have hgx:w4.grownBy (w4.setCell ⟨pb,2,none⟩ (.slice a4 (en+1) cap4)) (some pb):=ac_ (World.grownBy.refl _ _) _ _
        have htx:=ap_ PB6
        have P9:Blk (w4.setCell ⟨pb,2,none⟩ (.slice a4 (en+1) cap4)) pb #[.int .i64 n1,.int .i64 n2,.slice a4 (en+1) cap4,.slice none 0 0,.slice none 0 0,.slice none 0 0] tPo:=by simpa using PB6.set 2 (.slice a4 (en+1) cap4)
        have Q9:=QB6.grown hgx (by simp;omega)
        have R9:=R4.ty hgx htx (by decide)
        have D9:=D6.ty hgx htx (by decide) (by decide)
        have hgw9:=gstep hgw6 hgx (fun k e=>by cases e;exact .inl (by omega))
        generalize w4.setCell ⟨pb,2,none⟩ (.slice a4 (en+1) cap4)=W9 at *
        go_roundw
        case rel=>exact ⟨ex++[(⟨m1,bA xd⟩:Ex)],r2,a4,en+1,cap4,P9,Q9,R9,D9,by omega,hX6,hgw9⟩
        case measure=>(rw [D9.len,D.len];simp)
    |false=>
     have hXf:X=some (ex,rest):=by rw [hX.out,eK_ _ _ hah];simp
     subst hXf
     obtain ⟨V,hV0⟩:∃ V,Hid (volsP rest.length rest=V):=⟨_,rfl⟩
     have hMv:Hid (M=V.bind fun b=>fC n1 n2 ex b.1 b.2):=by show _=_;rw [hMx.out,<-hV0.out];rfl
     clear hMx hX hah hX0
     obtain ⟨wo,rfl⟩:∃ x,x=wr:=⟨_,rfl⟩
     go_wp2_with fail
     go_loopw [33] (fun _ wr=>∃ (vs:List Vo) (vr:List VR) (rest:List By) (va:Option Addr) (vn vc:Nat),Blk wr pb #[.int .i64 n1,.int .i64 n2,.slice ea en ec,.slice va vn vc,.slice none 0 0,.slice none 0 0] tPo∧Blk wr w.heap.size #[.int .i64 0,.int .i64 0,.slice none 0 0,.slice none 0 0,.slice none 0 0,.slice none 0 0] tPo∧ResAt Ex.cs 2 tE wr w.heap.size ea en ec ex∧ResAt VR.cs 4 tV wr w.heap.size va vn vc vr∧Al2 (VoR wr w.heap.size) vr vs∧(vblk vr).Nodup∧(pblk vr).Nodup∧RdAt wr rb rest∧vn+rest.length<=60000∧Hid (V=(volsP rest.length rest).map fun q=>(vs++q.1,q.2))∧w.grownBy wr (some rb)) (fun _ wr=>lnV (wr.cell? ⟨rb,0,none⟩))
     case atStart=>exact ⟨[],[],rest,none,0,0,PB,QB,RE,aL_,.nil,List.nodup_nil,List.nodup_nil,D,by omega,by show _=_;rw [<-hV0.out];cases volsP rest.length rest<;>rfl,hgw⟩
     case round=>
      have hrl:rest.length<=60000:=by omega
      clear PB QB D hgw RE hws G hn
      obtain ⟨vs,vr,rest3,va,vn,vc,PB,QB,RE,RV,AL,N1,N2,D,hn,hV,hgw⟩:=hrel
      have G:=hG.grown hgw hrb
      have hws:=hgw.size
      have qa:=bu_ rb rest3 ⟨#[118,111,108,117,109,101]⟩ wr D (by decide)
      rw [show (⟨#[118,111,108,117,109,101]⟩:ByteArray).data.toList=volK from rfl] at qa
      go_wp2_with fail
      refine qa.mono ?_
      rintro e w1 ⟨rfl,hw1⟩
      obtain rfl:wr=w1:=hw1.symm
      clear qa
      cases hah:ahL volK rest3 with
      |true=>
       cases rest3 with
       |nil=>cases hah
       |cons l3 r3=>
        have hal:ahP volK l3=true:=hah
        have hVx:=hV.out
        rw [mO_ hal] at hVx
        obtain ⟨O,hO⟩:∃ O,Hid (volP1 l3 r3=O):=⟨_,rfl⟩
        rw [hO.out] at hVx
        have hVc:Hid (V=O.bind fun v=>(volsP v.2.length v.2).map fun s=>(vs++v.1::s.1,s.2)):=by
         show _=_
         rw [hVx]
         cases O with
         |none=>rfl
         |some v=>simp only [Option.bind_some];cases volsP v.2.length v.2<;>rfl
        clear hVx hV hah
        simp only [List.length_cons] at hn
        go_upto_region 7 with fail
        have D0:=D
        have hWd:Below wr.heap.size wr wr.drew:=(Below.refl _ _).drew
        replace D:=D.below hWd
        replace G:=G.below hWd
        replace RE:=RE.below hWd
        replace RV:=RV.below hWd
        replace AL:Al2 (VoR wr.drew w.heap.size) vr vs:=AL.imp fun _ _ _ h=>h.below hWd
        replace PB:=PB.below hWd
        replace QB:=QB.below hWd
        replace hgw:=gbelow hgw hWd
        have hS0:(fun u=>u.cell? ⟨pb,3,none⟩=some (.slice va vn vc)) wr.drew:=PB.cell 3
        refine ax_ (S:=(fun u=>u.cell? ⟨pb,3,none⟩=some (.slice va vn vc))) 7 (by kernel_rfl) (by kernel_rfl) ?_
        generalize wr.drew=y0 at *
        clear hWd
        refine tk 0 ?_
        refine tk 1 ?_
        refine tk 2 ?_
        have q:=ia_ rb l3 r3 y0 D hal G hrb (by simp only [List.length_cons];omega)
        rw [hO.out] at q
        refine oneL (i:=3) (by kernel_rfl) rfl (fun K hK=>?_)
        go_simp
        refine q.mono ?_
        cases O with
        |none=>
         rintro e z1 ⟨⟨tp,pe,rfl⟩,hg1⟩
         have hVf:V=none:=hVc.out
         subst hVf
         have hfin:M=none:=hMv.out
         subst hfin
         show LastQ _ _ _ _ (.panic _) _ _
         unfold LastQ
         go_wp2
         exact ⟨rfl,⟨tp,pe,rfl⟩,gstep hgw hg1 (fun k e=>by cases e;exact .inr rfl)⟩
        |some ov=>
         obtain ⟨o,r4⟩:=ov
         rintro e z1 ⟨⟨v,rfl,VM,D5⟩,hg1⟩
         obtain ⟨ia,inn,ic,irs,rfl,RI,IL,NI⟩:=VM.out
         have hrl4:r4.length<=r3.length:=by
          have h1:=hO.out
          unfold volP1 at h1
          cases hv:voP l3 with
          |none=>rw [hv] at h1;cases h1
          |some hh=>
           rw [hv] at h1
           cases hi:itemsP r3.length r3 with
           |none=>rw [hi] at h1;cases h1
           |some qi=>
            rw [hi] at h1
            obtain ⟨_,rfl⟩:=Prod.mk.inj (Option.some.inj h1)
            have:=(dw_ hi).1
            omega
         have hvlt:=hX_ AL
         have hplt:=hY_ AL
         have hyz:=hgw.size
         have NA:(vblk (vr++[(⟨o.id,o.nm,o.fx,ia,inn,ic,irs⟩:VR)])).Nodup:=by
          rw [cw_]
          refine dp_ (o:=none) (H:=y0.heap.size) (by simpa using N1) hvlt (fun b e=>.inr ?_)
          change blkO ia=some b at e
          cases hia:ia with
          |none=>rw [hia] at e;cases e
          |some ad=>
           rw [hia] at e
           obtain rfl:=Option.some.inj e
           exact (RI.block ad hia).1
         have NB:(pblk (vr++[(⟨o.id,o.nm,o.fx,ia,inn,ic,irs⟩:VR)])).Nodup:=by
          rw [cx_,List.nodup_append]
          refine ⟨N2,NI,fun a ha b hb=>?_⟩
          have h1:=hplt a ha
          have h2:=lP_ IL b hb
          omega
         replace PB:=PB.grown hg1 (by simp;omega)
         replace QB:=QB.grown hg1 (by simp;omega)
         replace RE:=RE.offB hg1 hlt
         replace RV:=RV.offB hg1 hlt
         replace AL:Al2 (VoR z1 w.heap.size) vr vs:=AL.imp fun _ _ _ h=>h.offB hg1 hlt
         replace hgw:=gstep hgw hg1 (fun k e=>by cases e;exact .inr rfl)
         have EV:VoR z1 w.heap.size (⟨o.id,o.nm,o.fx,ia,inn,ic,irs⟩:VR) o:=⟨rfl,rfl,rfl,RI.mono hyz,IL.imp fun _ _ _ h=>⟨h.nm,h.ps.mono hyz⟩⟩
         clear hg1 RI IL NI D G hvlt hplt VM q
         dsimp only
         refine hK.out _ _ (PB.cell 3) (fun hHeld=>?_)
         clear hK K
         try simp only [Act.put,lsA,lsB,lsC]
         refine oneL (i:=4) (by kernel_rfl) rfl (fun K hK=>?_)
         go_simp
         have hWA:Below z1.heap.size z1 (z1.alloc (.cells (VR.cs (⟨o.id,o.nm,o.fx,ia,inn,ic,irs⟩:VR)).toArray tV)):=(Below.refl _ _).alloc (Nat.le_refl _) _
         have L4:=bi_ d3_ z1 (⟨o.id,o.nm,o.fx,ia,inn,ic,irs⟩:VR) tV _ rfl
         replace D5:=D5.below hWA
         replace RE:=RE.below hWA
         replace RV:=RV.below hWA
         replace AL:Al2 (VoR (z1.alloc (.cells (VR.cs (⟨o.id,o.nm,o.fx,ia,inn,ic,irs⟩:VR)).toArray tV)) w.heap.size) vr vs:=AL.imp fun _ _ _ h=>h.below hWA
         replace EV:=EV.below hWA
         replace PB:=PB.below hWA
         replace QB:=QB.below hWA
         replace hgw:=gbelow hgw hWA
         change K _ (z1.alloc (.cells (VR.cs (⟨o.id,o.nm,o.fx,ia,inn,ic,irs⟩:VR)).toArray tV))
         generalize z1.alloc (.cells (VR.cs (⟨o.id,o.nm,o.fx,ia,inn,ic,irs⟩:VR)).toArray tV)=z4 at *
         clear hWA
         refine hK.out _ _ (PB.cell 3) (fun hHeld=>?_)
         clear hK K
         try simp only [Act.put,lsA,lsB,lsC]
         refine oneL (i:=5) (by kernel_rfl) rfl (fun K hK=>?_)
         refine aD_ rfl (bh_ _ _ 23 rfl w.heap.size tV i1 (.agg #[.int .i64 0,.string .empty,.bool false,.slice none 0 0]) 56 Tryz.underlying23 hj0 hy0 hy1 hy2 rfl (by decide) d3_ ng_ va vn vc _ rfl RV _ 1 1 [(⟨o.id,o.nm,o.fx,ia,inn,ic,irs⟩:VR)] rfl L4 (fun ad h=>(by cases h;rfl)) (fun h=>(by cases h)) (vn+1) rfl (by unfold maxLen;omega) (by omega) (by have:=hgw.size;omega) (fun a4 cap4 w4 R4 hg4 hf4=>?_))
         have hty:=RV.rowTy (m:=vn) (k:=vc)
         have PB6:=PB.ty hg4 hty (by decide)
         have QB6:=QB.ty hg4 hty (by decide)
         have D6:=D5.ty hg4 hty (by decide) (by decide)
         have RE6:=RE.ty hg4 hty (by decide)
         have AL6:Al2 (VoR w4 w.heap.size) (vr++[(⟨o.id,o.nm,o.fx,ia,inn,ic,irs⟩:VR)]) (vs++[o]):=(AL.imp fun _ _ _ h=>h.ty hg4 hty (by decide) (by decide)).snoc (EV.ty hg4 hty (by decide) (by decide))
         have hgw6:=gstep hgw hg4 (fun k e=>.inl (bj_ (fun ad e=>(RV.block ad e).1) k e))
         have hV6:Hid (V=(volsP r4.length r4).map fun q=>((vs++[o])++q.1,q.2)):=by
          show _=_
          rw [hVc.out]
          show (volsP r4.length r4).map _=_
          simp
         refine hK.out _ _ (PB6.cell 3) (fun hHeld=>?_)
         clear hK K
         try simp only [Act.put,lsA,lsB,lsC]
         refine tk 6 ?_
         have p1:=PB6.cell 3
         have q1:=PB6.frozen 3
         clear hty hg4 hf4 PB QB RE RV AL EV D5 hgw L4 hHeld
         refine wpAnyH_done (by kernel_rfl) ?_ _
         refine lastL rfl ?_
         go_wp2
         have hgx:w4.grownBy (w4.setCell ⟨pb,3,none⟩ (.slice a4 (vn+1) cap4)) (some pb):=ac_ (World.grownBy.refl _ _) _ _
         have htx:=ap_ PB6
         have P9:Blk (w4.setCell ⟨pb,3,none⟩ (.slice a4 (vn+1) cap4)) pb #[.int .i64 n1,.int .i64 n2,.slice ea en ec,.slice a4 (vn+1) cap4,.slice none 0 0,.slice none 0 0] tPo:=by simpa using PB6.set 3 (.slice a4 (vn+1) cap4)
         have Q9:=QB6.grown hgx (by simp;omega)
         have RE9:=RE6.ty hgx htx (by decide)
         have R9:=R4.ty hgx htx (by decide)
         have AL9:Al2 (VoR (w4.setCell ⟨pb,3,none⟩ (.slice a4 (vn+1) cap4)) w.heap.size) (vr++[(⟨o.id,o.nm,o.fx,ia,inn,ic,irs⟩:VR)]) (vs++[o]):=AL6.imp fun _ _ _ h=>h.ty hgx htx (by decide) (by decide)
         have D9:=D6.ty hgx htx (by decide) (by decide)
         have hgw9:=gstep hgw6 hgx (fun k e=>by cases e;exact .inl (by omega))
         generalize w4.setCell ⟨pb,3,none⟩ (.slice a4 (vn+1) cap4)=W9 at *
         go_roundw
         case rel=>exact ⟨vs++[o],vr++[(⟨o.id,o.nm,o.fx,ia,inn,ic,irs⟩:VR)],r4,a4,vn+1,cap4,P9,Q9,RE9,R9,AL9,NA,NB,D9,by omega,hV6,hgw9⟩
         case measure=>(rw [D9.len,D0.len];simp only [List.length_cons];omega)
      |false=>
       have hVf:V=some (vs,rest3):=by rw [hV.out,nZ_ hah];simp
       subst hVf
       have hMf:Hid (M=fC n1 n2 ex vs rest3):=hMv.out
       clear hMv hV hah hV0
       have q:=e5_ rb rest3 ⟨#[114,101,102]⟩ wr D G hrb (by decide) (by omega)
       rw [show (⟨#[114,101,102]⟩:ByteArray).data.toList=refK from rfl] at q
       unfold fC at hMf
       go_wp2_with fail
       refine q.mono ?_
       clear q
       cases hr1:manyP refK ctP rest3 with
       |none=>
        rintro e z1 ⟨⟨tp,pe,rfl⟩,hg1⟩
        rw [hr1] at hMf
        have hfin:M=none:=hMf.out
        subst hfin
        go_wp2
        exact ⟨rfl,⟨tp,pe,rfl⟩,gstep hgw hg1 (fun k e=>by cases e;exact .inr rfl)⟩
       |some qr=>
        obtain ⟨rf,r5⟩:=qr
        have hr5:=cB_ hr1
        simp only at hr5
        rw [hr1] at hMf
        rintro e z1 ⟨⟨ra,rn,rc,rfl,RR,D5⟩,hg1⟩
        replace PB:=PB.grown hg1 (by simp;omega)
        replace QB:=QB.grown hg1 (by simp;omega)
        replace RE:=RE.offB hg1 hlt
        replace RV:=RV.offB hg1 hlt
        replace AL:Al2 (VoR z1 w.heap.size) vr vs:=AL.imp fun _ _ _ h=>h.offB hg1 hlt
        replace hgw:=gstep hgw hg1 (fun k e=>by cases e;exact .inr rfl)
        replace RR:=RR.mono hws
        have p1:=PB.cell 4
        have q1:=PB.frozen 4
        clear hg1 D G
        go_upto_region 9 with fail
        have hgx:z1.grownBy (z1.setCell ⟨pb,4,none⟩ (.slice ra rn rc)) (some pb):=ac_ (World.grownBy.refl _ _) _ _
        have htx:=ap_ PB
        have PB2:Blk (z1.setCell ⟨pb,4,none⟩ (.slice ra rn rc)) pb #[.int .i64 n1,.int .i64 n2,.slice ea en ec,.slice va vn vc,.slice ra rn rc,.slice none 0 0] tPo:=by simpa using PB.set 4 (.slice ra rn rc)
        have QB2:=QB.grown hgx (by simp;omega)
        have RE2:=RE.ty hgx htx (by decide)
        have RV2:=RV.ty hgx htx (by decide)
        have RR2:=RR.ty hgx htx (by decide)
        have AL2:Al2 (VoR (z1.setCell ⟨pb,4,none⟩ (.slice ra rn rc)) w.heap.size) vr vs:=AL.imp fun _ _ _ h=>h.ty hgx htx (by decide) (by decide)
        have D2:=D5.ty hgx htx (by decide) (by decide)
        have hgw2:=gstep hgw hgx (fun k e=>by cases e;exact .inl (by omega))
        generalize z1.setCell ⟨pb,4,none⟩ (.slice ra rn rc)=z2 at *
        clear hgx htx PB QB RE RV RR AL D5 hgw p1 q1
        have q:=e5_ rb r5 ⟨#[108,97,116,101]⟩ z2 D2 (hG.grown hgw2 hrb) hrb (by decide) (by omega)
        rw [show (⟨#[108,97,116,101]⟩:ByteArray).data.toList=lateK from rfl] at q
        go_wp2_with fail
        refine q.mono ?_
        clear q
        cases hr2:manyP lateK ctP r5 with
        |none=>
         rintro e z3 ⟨⟨tp,pe,rfl⟩,hg1⟩
         have hfin:M=none:=by rw [hMf.out];simp [hr2]
         subst hfin
         go_wp2
         exact ⟨rfl,⟨tp,pe,rfl⟩,gstep hgw2 hg1 (fun k e=>by cases e;exact .inr rfl)⟩
        |some ql=>
         obtain ⟨lt,r6⟩:=ql
         have hfin:M=some (⟨n1,n2,ex,vs,rf,lt⟩,r6):=by rw [hMf.out];simp [hr2]
         subst hfin
         rintro e z3 ⟨⟨la,ln,lc,rfl,RL,D3⟩,hg1⟩
         have hap:∀ x y,ra=some x->la=some y->x.block≠y.block:=fun x y hx hy=>by
          have h1:=(RR2.block x hx).2
          have h2:=(RL.block y hy).1
          omega
         have hz2:=hgw2.size
         have PB:=PB2.grown hg1 (by simp;omega)
         have QB:=QB2.grown hg1 (by simp;omega)
         have RE:=RE2.offB hg1 hlt
         have RV:=RV2.offB hg1 hlt
         have RR:=RR2.offB hg1 hlt
         have AL:Al2 (VoR z3 w.heap.size) vr vs:=AL2.imp fun _ _ _ h=>h.offB hg1 hlt
         have hgw:=gstep hgw2 hg1 (fun k e=>by cases e;exact .inr rfl)
         replace RL:=RL.mono hz2
         have p1:=PB.cell 5
         have q1:=PB.frozen 5
         clear hg1 PB2 QB2 RE2 RV2 RR2 AL2 D2 hgw2
         go_upto_region 10 with fail
         have hgx:z3.grownBy (z3.setCell ⟨pb,5,none⟩ (.slice la ln lc)) (some pb):=ac_ (World.grownBy.refl _ _) _ _
         have htx:=ap_ PB
         have PB2:Blk (z3.setCell ⟨pb,5,none⟩ (.slice la ln lc)) pb #[.int .i64 n1,.int .i64 n2,.slice ea en ec,.slice va vn vc,.slice ra rn rc,.slice la ln lc] tPo:=by simpa using PB.set 5 (.slice la ln lc)
         have QB2:=QB.grown hgx (by simp;omega)
         have M2:PoolM w.heap.size (z3.setCell ⟨pb,5,none⟩ (.slice la ln lc)) (.agg #[.int .i64 n1,.int .i64 n2,.slice ea en ec,.slice va vn vc,.slice ra rn rc,.slice la ln lc]) ⟨n1,n2,ex,vs,rf,lt⟩:=⟨ea,en,ec,va,vn,vc,ra,rn,rc,la,ln,lc,vr,rfl,RE.ty hgx htx (by decide),RV.ty hgx htx (by decide),RR.ty hgx htx (by decide),RL.ty hgx htx (by decide),hap,AL.imp fun _ _ _ h=>h.ty hgx htx (by decide) (by decide),N1,N2⟩
         have D2:=D3.ty hgx htx (by decide) (by decide)
         have hgw2:=gstep hgw hgx (fun k e=>by cases e;exact .inl (by omega))
         generalize z3.setCell ⟨pb,5,none⟩ (.slice la ln lc)=z4 at *
         clear hgx htx PB QB RE RV RR AL D3 hgw p1 q1 RL
         obtain ⟨v0,v1,v2,v3,v4,v5⟩:=blk6 PB2
         obtain ⟨r0,r1,r2,r3,r4,r5'⟩:=blk6 QB2
         obtain ⟨g0,g1,g2,g3,g4,g5⟩:=fz6 QB2
         go_wp2
         obtain ⟨F9,hg9⟩:=put6F QB2 (.int .i64 n1) (.int .i64 n2) (.slice ea en ec) (.slice va vn vc) (.slice ra rn rc) (.slice la ln lc)
         have M9:=M2.box hg9 QB2
         have D9:=D2.ty hg9 (ap_ QB2) (by decide) (by decide)
         have hgw9:=gstep hgw2 hg9 (fun k e=>by cases e;exact .inl (Nat.le_refl _))
         generalize (((((z4.setCell ⟨w.heap.size,0,none⟩ (.int .i64 n1)).setCell ⟨w.heap.size,1,none⟩ (.int .i64 n2)).setCell ⟨w.heap.size,2,none⟩ (.slice ea en ec)).setCell ⟨w.heap.size,3,none⟩ (.slice va vn vc)).setCell ⟨w.heap.size,4,none⟩ (.slice ra rn rc)).setCell ⟨w.heap.size,5,none⟩ (.slice la ln lc)=W8 at *
         refine bodyPost_ret (results_cell_row rfl _ W8 w.heap.size _ _ _ _ rfl F9 Tryz.underlying26 rfl (by kernel_rfl)) rfl ?_
         exact ⟨⟨_,rfl,M9,D9⟩,hgw9⟩
end Go.Proofs.YtigldeccfpkdmaaGreatDoor
