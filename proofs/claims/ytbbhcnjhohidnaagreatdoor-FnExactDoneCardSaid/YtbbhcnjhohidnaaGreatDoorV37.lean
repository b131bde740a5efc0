/- Done by both: the law's walk. -/
import Derived.ChangeSame
import Derived.ChangeVars
import Derived.JoinedOf
import Derived.LaidLaws
import Derived.LaidHandle
import Derived.Stop.Joined
import Derived.SevenTiedAt
import Derived.Test.YtbbhcnjhohidnaaGreatDoorV36
set_option maxHeartbeats 20000000
set_option maxRecDepth 100000
namespace Go.Proofs.YtbbhcnjhohidnaaGreatDoor
section
open Go Go.RowKit Go.BigFrame _root_.Go.Proofs.Tryz
theorem walkDone (S:Addr->Prop) (ep:Addr) (v:Value) (p:Po) (o:Opr) (w:World) (h:PoolAt 0 w v p) (hb:BigP p) (hso:StrO o) (hE:Errs S ep w) (hgl:11<=w.heap.size) :
  Calls prog 3 #[v,.agg #[.int .i64 o.k,.string o.vol,.string o.file,.string o.to,.string o.into,.int .i64 o.at',.int .i64 o.fr,.int .i64 o.ln,.string o.data]] w fun e w'=>e=.returned (.bool true)∧Below w.heap.size w w':=by
 obtain ⟨ea,en,ec,va,vn,vc,ra,rn,rc,la,ln,lc,rfl⟩:=h.cells
 obtain ⟨W0,hL⟩:∃ W0,W0=(w.alloc (.cells #[.int .i64 p.size,.int .i64 p.next,.slice ea en ec,.slice va vn vc,.slice ra rn rc,.slice la ln lc] 26)).alloc (.cells #[.int .i64 o.k,.string o.vol,.string o.file,.string o.to,.string o.into,.int .i64 o.at',.int .i64 o.fr,.int .i64 o.ln,.string o.data] 28):=⟨_,rfl⟩
 have C:Blk W0 w.heap.size #[.int .i64 p.size,.int .i64 p.next,.slice ea en ec,.slice va vn vc,.slice ra rn rc,.slice la ln lc] 26:=by rw [hL];exact (Blk.new w _ _).alloc _
 have O:Blk W0 (w.heap.size+1) #[.int .i64 o.k,.string o.vol,.string o.file,.string o.to,.string o.into,.int .i64 o.at',.int .i64 o.fr,.int .i64 o.ln,.string o.data] 28:=by rw [hL];exact Blk.new' _ _ _ _ (by simp)
 have hO:Below w.heap.size w W0:=by rw [hL];go_grown
 go_enter func3,ntmps3
 go_wp2_with fail
 rw [<-hL]
 clear hL
 refine (ka_ 0 _ p _ (h.below hO) hb).mono ?_
 rintro e w0 ⟨⟨r,rfl,hr⟩,hB⟩
 replace C:=C.below hB
 replace O:=O.below hB
 replace hB:=chain hO hB
 clear hO
 rcases hr with rfl | ⟨r0,r1,hs⟩
 ·go_wp2
  go_returns
  exact ⟨rfl,hB⟩
 have hd:=hs.dim
 obtain ⟨o0,o1,o2,o3,o4,o5,o6,o7,o8⟩:=ce9 O
 go_wp2_with fail
 refine (laws_szOp o r w0 hso r0 r1).mono ?_
 rintro e w1 ⟨⟨r2,rfl⟩,hM⟩
 replace C:=C.below hM
 replace O:=O.below hM
 replace hB:=chain hB hM
 clear hM o0 o1 o2 o3 o4 o5 o6 o7 o8
 by_cases hr2:r2<0
 ·go_wp2
  go_returns
  exact ⟨rfl,hB⟩
 have hx:=fun (B0:Nat) (v:Value) (u:World) (hv:PoolAt B0 u v p) (hB:0<B0)=>nK_ B0 hB v p o u hv hd hso
 have ho:=fun (B0:Nat) (v:Value) (u:World) (hv:PoolAt B0 u v p) (hB:0<B0) (hE:Errs S ep u) (hg:11<=u.heap.size)=>nV_ S ep B0 hB v p o u hv hd hso hE hg
 have hH:DimP (doneS p o).2->DimK (doneS p o).2:=dimk_done p o hd
 obtain ⟨⟨c,q⟩,hR⟩:∃ R,Hid (doneS p o=R):=⟨_,rfl⟩
 simp only [hR.out] at hx ho hH
 have h7:(c != c)=false:=by simp
 obtain ⟨d0,d1,d2,d3,d4,d5⟩:=C.six
 obtain ⟨o0,o1,o2,o3,o4,o5,o6,o7,o8⟩:=ce9 O
 have hW:Hid (w.heap.size+1<w1.heap.size):=O.lt
 go_wp2_with fail
 refine region_cut (fun u=>u.cell? ⟨w.heap.size,0,none⟩=some (.int .i64 p.size)∧u.cell? ⟨w.heap.size,1,none⟩=some (.int .i64 p.next)∧u.cell? ⟨w.heap.size,2,none⟩=some (.slice ea en ec)∧u.cell? ⟨w.heap.size,3,none⟩=some (.slice va vn vc)∧u.cell? ⟨w.heap.size,4,none⟩=some (.slice ra rn rc)∧u.cell? ⟨w.heap.size,5,none⟩=some (.slice la ln lc)∧u.cell? ⟨w.heap.size+1,0,none⟩=some (.int .i64 o.k)∧u.cell? ⟨w.heap.size+1,1,none⟩=some (.string o.vol)∧u.cell? ⟨w.heap.size+1,2,none⟩=some (.string o.file)∧u.cell? ⟨w.heap.size+1,3,none⟩=some (.string o.to)∧u.cell? ⟨w.heap.size+1,4,none⟩=some (.string o.into)∧u.cell? ⟨w.heap.size+1,5,none⟩=some (.int .i64 o.at')∧u.cell? ⟨w.heap.size+1,6,none⟩=some (.int .i64 o.fr)∧u.cell? ⟨w.heap.size+1,7,none⟩=some (.int .i64 o.ln)∧u.cell? ⟨w.heap.size+1,8,none⟩=some (.string o.data)) 11 [27,28,29,30,31,26,32,33,6,7] (PhQ 6 7 c q w1 fun u v=>PoolT 0 u v q∧DimP q) (fun u hu=>⟨bcell hu d0,bcell hu d1,bcell hu d2,bcell hu d3,bcell hu d4,bcell hu d5,bcell hu o0,bcell hu o1,bcell hu o2,bcell hu o3,bcell hu o4,bcell hu o5,bcell hu o6,bcell hu o7,bcell hu o8⟩) ?walk6 ?rest6
 case walk6=>
  intro hc u0 hy hS
  refine tkc 0 ?_
  refine tkc 2 ?_
  refine twoC 1 8 (fun K hK=>?_) (fun K hK=>?_)
  ·skip
   go_simp
   refine (kj_ 0 _ p _ (h.below (chain hB hy)) hs).mono ?_
   rintro e u1 ⟨⟨v2,rfl,P2⟩,hC⟩
   have hn:=chain hy hC
   dsimp only
   refine hK.out _ _ (hc u1 hn) (fun hHeld=>?_)
   clear hK K
   try simp only [Act.put,lsA,lsB,lsC]
   refine twoC 3 8 (fun K hK=>?_) (fun K hK=>?_)
   ·skip
    go_simp
    refine (laws_toOp o _).mono ?_
    rintro e u2 ⟨rfl,hp⟩
    replace P2:=P2.below hp
    have hf:=chain hn hp
    dsimp only
    refine hK.out _ _ (hc u2 hf) (fun hHeld=>?_)
    clear hK K
    try simp only [Act.put,lsA,lsB,lsC]
    refine twoC 4 8 (fun K hK=>?_) (fun K hK=>?_)
    ·skip
     go_simp
     refine (hx _ _ u2 P2 (by omega)).mono ?_
     rintro e u3 ⟨⟨v3,_,rfl,rfl,R3,DQ⟩,hm⟩
     obtain ⟨a,b,d,e,f,g,i,j,k,l,m,n,rfl⟩:=R3.at'.cells
     have he:=chain hf hm
     have hz:=hf.size
     dsimp only
     refine hK.out _ _ (hc u3 he) (fun hHeld=>?_)
     clear hK K
     try simp only [Act.put,lsA,lsB,lsC]
     refine tkc 5 ?_
     refine tkc 6 ?_
     refine tkc 7 ?_
     refine oneC 8 fun K hK=>?_
     go_simp
     obtain ⟨ab,u4,ha,hu,AB,hw,hq,hh⟩:=al6 he
     rw [<-hu,<-ha]
     clear hu ha
     replace R3:=R3.below hw
     refine hK.out _ _ (hc _ hq) (fun hHeld=>?_)
     clear hK K
     try simp only [Act.put,lsA,lsB,lsC]
     obtain ⟨t0,t1,t2,t3,t4,t5⟩:=AB.six
     obtain ⟨f0,f1,f2,f3,f4,f5⟩:=fz6 AB
     refine oneC 9 fun K hK=>?_
     go_simp
     obtain ⟨u9,ht,E9,hl⟩:=set6 AB (.int .i64 q.size) (.int .i64 q.next) (.slice a b d) (.slice e f g) (.slice i j k) (.slice l m n)
     rw [<-ht]
     have hj:=ao_ hq hl hh.out
     have R9:=(⟨R3.put hl AB,DQ⟩:PoolT 0 u9 _ q∧DimP q)
     refine hK.out _ _ (hc _ hj) (fun hHeld=>?_)
     clear hK K
     try simp only [Act.put,lsA,lsB,lsC]
     refine tkc 10 ?_
     refine wpAnyH_done (by kernel_rfl) ?_ _
     exact leafP E9 R9 hj hh
    ·skip
     go_simp
     obtain ⟨ab,u3,ha,hu,AB,hm,he,hh⟩:=al6 hf
     rw [<-hu,<-ha]
     clear hu ha
     replace P2:=P2.below hm
     refine hK.out _ _ (hc _ he) (fun hHeld=>?_)
     clear hK K
     try simp only [Act.put,lsA,lsB,lsC]
     refine oneC 4 fun K hK=>?_
     go_simp
     refine (hx _ _ u3 P2 (by omega)).mono ?_
     rintro e u4 ⟨⟨v3,_,rfl,rfl,R3,DQ⟩,hw⟩
     obtain ⟨a,b,d,e,f,g,i,j,k,l,m,n,rfl⟩:=R3.at'.cells
     have hq:=chain he hw
     replace AB:=AB.below hw
     have hz:=he.size
     dsimp only
     refine hK.out _ _ (hc u4 hq) (fun hHeld=>?_)
     clear hK K
     try simp only [Act.put,lsA,lsB,lsC]
     refine tkc 5 ?_
     refine tkc 6 ?_
     refine tkc 7 ?_
     obtain ⟨t0,t1,t2,t3,t4,t5⟩:=AB.six
     obtain ⟨f0,f1,f2,f3,f4,f5⟩:=fz6 AB
     refine oneC 9 fun K hK=>?_
     go_simp
     obtain ⟨u9,ht,E9,hl⟩:=set6 AB (.int .i64 q.size) (.int .i64 q.next) (.slice a b d) (.slice e f g) (.slice i j k) (.slice l m n)
     rw [<-ht]
     have hj:=ao_ hq hl hh.out
     have R9:=(⟨R3.put hl AB,DQ⟩:PoolT 0 u9 _ q∧DimP q)
     refine hK.out _ _ (hc _ hj) (fun hHeld=>?_)
     clear hK K
     try simp only [Act.put,lsA,lsB,lsC]
     refine tkc 10 ?_
     refine wpAnyH_done (by kernel_rfl) ?_ _
     exact leafP E9 R9 hj hh
   ·skip
    go_simp
    obtain ⟨ab,u2,ha,hu,AB,hp,hf,hh⟩:=al6 hn
    rw [<-hu,<-ha]
    clear hu ha
    replace P2:=P2.below hp
    refine hK.out _ _ (hc _ hf) (fun hHeld=>?_)
    clear hK K
    try simp only [Act.put,lsA,lsB,lsC]
    refine oneC 3 fun K hK=>?_
    go_simp
    refine (laws_toOp o _).mono ?_
    rintro e u3 ⟨rfl,hm⟩
    replace P2:=P2.below hm
    have he:=chain hf hm
    replace AB:=AB.below hm
    dsimp only
    refine hK.out _ _ (hc u3 he) (fun hHeld=>?_)
    clear hK K
    try simp only [Act.put,lsA,lsB,lsC]
    refine oneC 4 fun K hK=>?_
    go_simp
    refine (hx _ _ u3 P2 (by omega)).mono ?_
    rintro e u4 ⟨⟨v3,_,rfl,rfl,R3,DQ⟩,hw⟩
    obtain ⟨a,b,d,e,f,g,i,j,k,l,m,n,rfl⟩:=R3.at'.cells
    have hq:=chain he hw
    replace AB:=AB.below hw
    have hz:=he.size
    dsimp only
    refine hK.out _ _ (hc u4 hq) (fun hHeld=>?_)
    clear hK K
    try simp only [Act.put,lsA,lsB,lsC]
    refine tkc 5 ?_
    refine tkc 6 ?_
    refine tkc 7 ?_
    obtain ⟨t0,t1,t2,t3,t4,t5⟩:=AB.six
    obtain ⟨f0,f1,f2,f3,f4,f5⟩:=fz6 AB
    refine oneC 9 fun K hK=>?_
    go_simp
    obtain ⟨u9,ht,E9,hl⟩:=set6 AB (.int .i64 q.size) (.int .i64 q.next) (.slice a b d) (.slice e f g) (.slice i j k) (.slice l m n)
    rw [<-ht]
    have hj:=ao_ hq hl hh.out
    have R9:=(⟨R3.put hl AB,DQ⟩:PoolT 0 u9 _ q∧DimP q)
    refine hK.out _ _ (hc _ hj) (fun hHeld=>?_)
    clear hK K
    try simp only [Act.put,lsA,lsB,lsC]
    refine tkc 10 ?_
    refine wpAnyH_done (by kernel_rfl) ?_ _
    exact leafP E9 R9 hj hh
  ·skip
   go_simp
   obtain ⟨ab,u1,ha,hu,AB,hC,hn,hh⟩:=al6 hy
   rw [<-hu,<-ha]
   clear hu ha
   refine hK.out _ _ (hc _ hn) (fun hHeld=>?_)
   clear hK K
   try simp only [Act.put,lsA,lsB,lsC]
   refine oneC 1 fun K hK=>?_
   go_simp
   refine (kj_ 0 _ p _ (h.below (chain hB hn)) hs).mono ?_
   rintro e u2 ⟨⟨v2,rfl,P2⟩,hp⟩
   have hf:=chain hn hp
   replace AB:=AB.below hp
   dsimp only
   refine hK.out _ _ (hc u2 hf) (fun hHeld=>?_)
   clear hK K
   try simp only [Act.put,lsA,lsB,lsC]
   refine oneC 3 fun K hK=>?_
   go_simp
   refine (laws_toOp o _).mono ?_
   rintro e u3 ⟨rfl,hm⟩
   replace P2:=P2.below hm
   have he:=chain hf hm
   replace AB:=AB.below hm
   dsimp only
   refine hK.out _ _ (hc u3 he) (fun hHeld=>?_)
   clear hK K
   try simp only [Act.put,lsA,lsB,lsC]
   refine oneC 4 fun K hK=>?_
   go_simp
   refine (hx _ _ u3 P2 (by omega)).mono ?_
   rintro e u4 ⟨⟨v3,_,rfl,rfl,R3,DQ⟩,hw⟩
   obtain ⟨a,b,d,e,f,g,i,j,k,l,m,n,rfl⟩:=R3.at'.cells
   have hq:=chain he hw
   replace AB:=AB.below hw
   have hz:=he.size
   dsimp only
   refine hK.out _ _ (hc u4 hq) (fun hHeld=>?_)
   clear hK K
   try simp only [Act.put,lsA,lsB,lsC]
   refine tkc 5 ?_
   refine tkc 6 ?_
   refine tkc 7 ?_
   obtain ⟨t0,t1,t2,t3,t4,t5⟩:=AB.six
   obtain ⟨f0,f1,f2,f3,f4,f5⟩:=fz6 AB
   refine oneC 9 fun K hK=>?_
   go_simp
   obtain ⟨u9,ht,E9,hl⟩:=set6 AB (.int .i64 q.size) (.int .i64 q.next) (.slice a b d) (.slice e f g) (.slice i j k) (.slice l m n)
   rw [<-ht]
   have hj:=ao_ hq hl hh.out
   have R9:=(⟨R3.put hl AB,DQ⟩:PoolT 0 u9 _ q∧DimP q)
   refine hK.out _ _ (hc _ hj) (fun hHeld=>?_)
   clear hK K
   try simp only [Act.put,lsA,lsB,lsC]
   refine tkc 10 ?_
   refine wpAnyH_done (by kernel_rfl) ?_ _
   exact leafP E9 R9 hj hh
 clear d0 d1 d2 d3 d4 d5 o0 o1 o2 o3 o4 o5 o6 o7 o8
 rintro x w3 ⟨ab3,a,b,d,e,f,g,i,j,k,l,m,n,e6,e7,A,⟨R3,DQ⟩,he,hT⟩
 simp only [putAll,List.foldl_cons,List.foldl_nil,e6,e7]
 try simp only [Act.put,lsA,lsB,lsC]
 clear e6 e7
 replace hH:=hH DQ
 replace C:=C.below he
 replace O:=O.below he
 replace hB:=chain hB he
 have hV:Hid (w.heap.size+1<w3.heap.size∧ab3<w3.heap.size):=⟨O.lt,A.lt⟩
 clear he hT hW hx
 obtain ⟨d0,d1,d2,d3,d4,d5⟩:=C.six
 go_wp2_with fail
 refine (kj_ 0 _ p _ (h.below hB) hs).mono ?_
 rintro e w4 ⟨⟨v4,rfl,hI⟩,hQ⟩
 obtain ⟨ea4,en4,ec4,va4,vn4,vc4,ra4,rn4,rc4,la4,ln4,lc4,rfl⟩:=hI.cells
 have hN:Below w4.heap.size w4 (w4.alloc (.cells #[.int .i64 p.size,.int .i64 p.next,.slice ea4 en4 ec4,.slice va4 vn4 vc4,.slice ra4 rn4 rc4,.slice la4 ln4 lc4] 35)):=by go_grown
 have X:=Blk.new w4 #[.int .i64 p.size,.int .i64 p.next,.slice ea4 en4 ec4,.slice va4 vn4 vc4,.slice ra4 rn4 rc4,.slice la4 ln4 lc4] 35
 have hU:Hid ((w4.alloc (.cells #[.int .i64 p.size,.int .i64 p.next,.slice ea4 en4 ec4,.slice va4 vn4 vc4,.slice ra4 rn4 rc4,.slice la4 ln4 lc4] 35)).heap.size=w4.heap.size+1∧w3.heap.size<=w4.heap.size):=⟨by simp,hQ.size⟩
 have Z:=chain hQ hN
 clear d0 d1 d2 d3 d4 d5
 go_wp2_with fail
 generalize w4.alloc (.cells #[.int .i64 p.size,.int .i64 p.next,.slice ea4 en4 ec4,.slice va4 vn4 vc4,.slice ra4 rn4 rc4,.slice la4 ln4 lc4] 35)=W4 at *
 replace C:=C.below Z
 replace O:=O.below Z
 replace A:=A.below Z
 replace hB:=chain hB Z
 have P4:=hI.below hN
 clear hQ
 obtain ⟨x0,x1,x2,x3,x4,x5⟩:=X.six
 obtain ⟨o0,o1,o2,o3,o4,o5,o6,o7,o8⟩:=ce9 O
 refine region_cut (fun u=>u.cell? ⟨w4.heap.size,0,none⟩=some (.int .i64 p.size)∧u.cell? ⟨w4.heap.size,1,none⟩=some (.int .i64 p.next)∧u.cell? ⟨w4.heap.size,2,none⟩=some (.slice ea4 en4 ec4)∧u.cell? ⟨w4.heap.size,3,none⟩=some (.slice va4 vn4 vc4)∧u.cell? ⟨w4.heap.size,4,none⟩=some (.slice ra4 rn4 rc4)∧u.cell? ⟨w4.heap.size,5,none⟩=some (.slice la4 ln4 lc4)∧u.cell? ⟨w.heap.size+1,0,none⟩=some (.int .i64 o.k)∧u.cell? ⟨w.heap.size+1,1,none⟩=some (.string o.vol)∧u.cell? ⟨w.heap.size+1,2,none⟩=some (.string o.file)∧u.cell? ⟨w.heap.size+1,3,none⟩=some (.string o.to)∧u.cell? ⟨w.heap.size+1,4,none⟩=some (.string o.into)∧u.cell? ⟨w.heap.size+1,5,none⟩=some (.int .i64 o.at')∧u.cell? ⟨w.heap.size+1,6,none⟩=some (.int .i64 o.fr)∧u.cell? ⟨w.heap.size+1,7,none⟩=some (.int .i64 o.ln)∧u.cell? ⟨w.heap.size+1,8,none⟩=some (.string o.data)) 10 [37,38,39,40,36,41,42,9,10] (PhQ 9 10 c q W4 fun u v=>PoolX W4.heap.size u v q) (fun u hu=>⟨bcell hu x0,bcell hu x1,bcell hu x2,bcell hu x3,bcell hu x4,bcell hu x5,bcell hu o0,bcell hu o1,bcell hu o2,bcell hu o3,bcell hu o4,bcell hu o5,bcell hu o6,bcell hu o7,bcell hu o8⟩) ?walk9 ?rest9
 case walk9=>
  intro hc u0 hy hS
  refine tkc 0 ?_
  refine tkc 1 ?_
  refine twoC 2 7 (fun K hK=>?_) (fun K hK=>?_)
  ·skip
   go_simp
   refine (laws_toOp o _).mono ?_
   rintro e u1 ⟨rfl,hC⟩
   have P2:=P4.below (chain hy hC)
   have hn:=chain hy hC
   dsimp only
   refine hK.out _ _ (hc u1 hn) (fun hHeld=>?_)
   clear hK K
   try simp only [Act.put,lsA,lsB,lsC]
   refine twoC 3 7 (fun K hK=>?_) (fun K hK=>?_)
   ·skip
    go_simp
    refine (ho _ _ u1 P2 (by omega) (hE.below (chain hB hn)) (Zl hgl (chain hB hn).size)).mono ?_
    rintro e u2 ⟨⟨v3,_,rfl,rfl,R3,_⟩,hp⟩
    obtain ⟨a,b,d,e,f,g,i,j,k,l,m,n,rfl⟩:=R3.t.at'.cells
    have hf:=chain hn hp
    have hz:=hn.size
    dsimp only
    refine hK.out _ _ (hc u2 hf) (fun hHeld=>?_)
    clear hK K
    try simp only [Act.put,lsA,lsB,lsC]
    refine tkc 4 ?_
    refine tkc 5 ?_
    refine tkc 6 ?_
    refine oneC 7 fun K hK=>?_
    go_simp
    obtain ⟨ab,u3,ha,hu,AB,hm,he,hh⟩:=al6 hf
    rw [<-hu,<-ha]
    clear hu ha
    replace R3:=R3.below hm
    refine hK.out _ _ (hc _ he) (fun hHeld=>?_)
    clear hK K
    try simp only [Act.put,lsA,lsB,lsC]
    obtain ⟨t0,t1,t2,t3,t4,t5⟩:=AB.six
    obtain ⟨f0,f1,f2,f3,f4,f5⟩:=fz6 AB
    refine oneC 8 fun K hK=>?_
    go_simp
    obtain ⟨u9,ht,E9,hl⟩:=set6 AB (.int .i64 q.size) (.int .i64 q.next) (.slice a b d) (.slice e f g) (.slice i j k) (.slice l m n)
    rw [<-ht]
    have hj:=ao_ he hl hh.out
    have R9:=R3.put hz hl AB
    refine hK.out _ _ (hc _ hj) (fun hHeld=>?_)
    clear hK K
    try simp only [Act.put,lsA,lsB,lsC]
    refine tkc 9 ?_
    refine wpAnyH_done (by kernel_rfl) ?_ _
    exact leafP E9 R9 hj hh
   ·skip
    go_simp
    obtain ⟨ab,u2,ha,hu,AB,hp,hf,hh⟩:=al6 hn
    rw [<-hu,<-ha]
    clear hu ha
    replace P2:=P2.below hp
    refine hK.out _ _ (hc _ hf) (fun hHeld=>?_)
    clear hK K
    try simp only [Act.put,lsA,lsB,lsC]
    refine oneC 3 fun K hK=>?_
    go_simp
    refine (ho _ _ u2 P2 (by omega) (hE.below (chain hB hf)) (Zl hgl (chain hB hf).size)).mono ?_
    rintro e u3 ⟨⟨v3,_,rfl,rfl,R3,_⟩,hm⟩
    obtain ⟨a,b,d,e,f,g,i,j,k,l,m,n,rfl⟩:=R3.t.at'.cells
    have he:=chain hf hm
    replace AB:=AB.below hm
    have hz:=hf.size
    dsimp only
    refine hK.out _ _ (hc u3 he) (fun hHeld=>?_)
    clear hK K
    try simp only [Act.put,lsA,lsB,lsC]
    refine tkc 4 ?_
    refine tkc 5 ?_
    refine tkc 6 ?_
    obtain ⟨t0,t1,t2,t3,t4,t5⟩:=AB.six
    obtain ⟨f0,f1,f2,f3,f4,f5⟩:=fz6 AB
    refine oneC 8 fun K hK=>?_
    go_simp
    obtain ⟨u9,ht,E9,hl⟩:=set6 AB (.int .i64 q.size) (.int .i64 q.next) (.slice a b d) (.slice e f g) (.slice i j k) (.slice l m n)
    rw [<-ht]
    have hj:=ao_ he hl hh.out
    have R9:=R3.put hz hl AB
    refine hK.out _ _ (hc _ hj) (fun hHeld=>?_)
    clear hK K
    try simp only [Act.put,lsA,lsB,lsC]
    refine tkc 9 ?_
    refine wpAnyH_done (by kernel_rfl) ?_ _
    exact leafP E9 R9 hj hh
  ·skip
   go_simp
   obtain ⟨ab,u1,ha,hu,AB,hC,hn,hh⟩:=al6 hy
   rw [<-hu,<-ha]
   clear hu ha
   refine hK.out _ _ (hc _ hn) (fun hHeld=>?_)
   clear hK K
   try simp only [Act.put,lsA,lsB,lsC]
   refine oneC 2 fun K hK=>?_
   go_simp
   refine (laws_toOp o _).mono ?_
   rintro e u2 ⟨rfl,hp⟩
   have P2:=P4.below (chain hn hp)
   have hf:=chain hn hp
   replace AB:=AB.below hp
   dsimp only
   refine hK.out _ _ (hc u2 hf) (fun hHeld=>?_)
   clear hK K
   try simp only [Act.put,lsA,lsB,lsC]
   refine oneC 3 fun K hK=>?_
   go_simp
   refine (ho _ _ u2 P2 (by omega) (hE.below (chain hB hf)) (Zl hgl (chain hB hf).size)).mono ?_
   rintro e u3 ⟨⟨v3,_,rfl,rfl,R3,_⟩,hm⟩
   obtain ⟨a,b,d,e,f,g,i,j,k,l,m,n,rfl⟩:=R3.t.at'.cells
   have he:=chain hf hm
   replace AB:=AB.below hm
   have hz:=hf.size
   dsimp only
   refine hK.out _ _ (hc u3 he) (fun hHeld=>?_)
   clear hK K
   try simp only [Act.put,lsA,lsB,lsC]
   refine tkc 4 ?_
   refine tkc 5 ?_
   refine tkc 6 ?_
   obtain ⟨t0,t1,t2,t3,t4,t5⟩:=AB.six
   obtain ⟨f0,f1,f2,f3,f4,f5⟩:=fz6 AB
   refine oneC 8 fun K hK=>?_
   go_simp
   obtain ⟨u9,ht,E9,hl⟩:=set6 AB (.int .i64 q.size) (.int .i64 q.next) (.slice a b d) (.slice e f g) (.slice i j k) (.slice l m n)
   rw [<-ht]
   have hj:=ao_ he hl hh.out
   have R9:=R3.put hz hl AB
   refine hK.out _ _ (hc _ hj) (fun hHeld=>?_)
   clear hK K
   try simp only [Act.put,lsA,lsB,lsC]
   refine tkc 9 ?_
   refine wpAnyH_done (by kernel_rfl) ?_ _
   exact leafP E9 R9 hj hh
 clear x0 x1 x2 x3 x4 x5 o0 o1 o2 o3 o4 o5 o6 o7 o8
 rintro x w5 ⟨ab5,a5,b5,d5,e5,f5,g5,i5,j5,k5,l5,m5,n5,e6,e7,G,M,hG,hJ⟩
 simp only [putAll,List.foldl_cons,List.foldl_nil,e6,e7]
 try simp only [Act.put,lsA,lsB,lsC]
 clear e6 e7
 have h3:Hid (W4.heap.size<=ab5):=hJ
 clear hJ
 have hF:=chain hN hG
 clear hN
 replace C:=C.below hG
 replace O:=O.below hG
 replace A:=A.below hG
 replace X:=X.below hG
 replace Z:=chain Z hG
 replace hB:=chain hB hG
 clear hG P4
 obtain ⟨x0,x1,x2,x3,x4,x5⟩:=A.six
 obtain ⟨y0,y1,y2,y3,y4,y5⟩:=G.six
 go_wp2_with fail
 refine (kk_ 0 0 _ _ q w5 (M.t.at'.mono (Zg _)) ((R3.below Z).at'.mono (Zg _)) hH.small).mono ?_
 rintro e w6 ⟨rfl,hb⟩
 replace C:=C.below hb
 replace O:=O.below hb
 replace A:=A.below hb
 replace X:=X.below hb
 replace G:=G.below hb
 replace M:=M.below hb
 replace Z:=chain Z hb
 replace hB:=chain hB hb
 replace hF:=chain hF hb
 clear hb x0 x1 x2 x3 x4 x5 y0 y1 y2 y3 y4 y5
 obtain ⟨x0,x1,x2,x3,x4,x5⟩:=X.six
 obtain ⟨d0,d1,d2,d3,d4,d5⟩:=C.six
 have P6:=hI.below hF
 go_wp2_with fail
 refine region_cut (fun u=>u.cell? ⟨w4.heap.size,0,none⟩=some (.int .i64 p.size)∧u.cell? ⟨w4.heap.size,1,none⟩=some (.int .i64 p.next)∧u.cell? ⟨w4.heap.size,2,none⟩=some (.slice ea4 en4 ec4)∧u.cell? ⟨w4.heap.size,3,none⟩=some (.slice va4 vn4 vc4)∧u.cell? ⟨w4.heap.size,4,none⟩=some (.slice ra4 rn4 rc4)∧u.cell? ⟨w4.heap.size,5,none⟩=some (.slice la4 ln4 lc4)∧u.cell? ⟨w.heap.size,0,none⟩=some (.int .i64 p.size)∧u.cell? ⟨w.heap.size,1,none⟩=some (.int .i64 p.next)∧u.cell? ⟨w.heap.size,2,none⟩=some (.slice ea en ec)∧u.cell? ⟨w.heap.size,3,none⟩=some (.slice va vn vc)∧u.cell? ⟨w.heap.size,4,none⟩=some (.slice ra rn rc)∧u.cell? ⟨w.heap.size,5,none⟩=some (.slice la ln lc)) 5 [52,53,54,55,56] (fun x u=>x 56=.bool false∧Below w6.heap.size w6 u) (fun u hu=>⟨bcell hu x0,bcell hu x1,bcell hu x2,bcell hu x3,bcell hu x4,bcell hu x5,bcell hu d0,bcell hu d1,bcell hu d2,bcell hu d3,bcell hu d4,bcell hu d5⟩) ?walk13 ?rest13
 case walk13=>
  intro hc u0 hy hS
  refine tkc 0 ?_
  refine tkc 1 ?_
  refine oneC 2 fun K hK=>?_
  go_simp
  refine (kj_ 0 _ p _ (h.below (chain hB hy)) hs).mono ?_
  rintro e u1 ⟨⟨v2,rfl,P2⟩,hC⟩
  have hn:=chain hy hC
  obtain ⟨a7,b7,d7,e7,f7,g7,i7,j7,k7,l7,m7,n7,rfl⟩:=P2.cells
  dsimp only
  refine hK.out _ _ (hc u1 hn) (fun hHeld=>?_)
  clear hK K
  try simp only [Act.put,lsA,lsB,lsC]
  refine oneC 3 fun K hK=>?_
  go_simp
  refine (kk_ _ _ _ _ p _ (P6.below hn) P2 hs).mono ?_
  rintro e u2 ⟨rfl,hp⟩
  have hf:=chain hn hp
  dsimp only
  refine hK.out _ _ (hc u2 hf) (fun hHeld=>?_)
  clear hK K
  try simp only [Act.put,lsA,lsB,lsC]
  refine tkc 4 ?_
  refine wpAnyH_done (by kernel_rfl) ?_ _
  refine leaf_of ⟨?_,hf⟩
  simp only [Act.eval,Array.getD_eq_getD_getElem?,lgA,lgB,lgC,Option.getD_some]
 clear x0 x1 x2 x3 x4 x5 d0 d1 d2 d3 d4 d5 P6
 rintro x w8 ⟨e6,hD⟩
 simp only [putAll,List.foldl_cons,List.foldl_nil,e6]
 try simp only [Act.put,lsA,lsB,lsC]
 clear e6
 replace C:=C.below hD
 replace O:=O.below hD
 replace A:=A.below hD
 replace X:=X.below hD
 replace G:=G.below hD
 replace M:=M.below hD
 replace Z:=chain Z hD
 replace hB:=chain hB hD
 replace hF:=chain hF hD
 clear hD
 obtain ⟨x0,x1,x2,x3,x4,x5⟩:=X.six
 go_wp2_with fail
 refine (h4_ (w3.heap.size+1) (Nat.succ_pos _) _ p w4 w8 hI hs (Kp.of_below hF)).mono ?_
 rintro e w9 ⟨⟨k9,rfl,h8⟩,_,F9⟩
 have hA:Hid (W4.heap.size=w4.heap.size+1∧w3.heap.size<=w4.heap.size∧w.heap.size+1<w3.heap.size∧ab3<w3.heap.size∧W4.heap.size<=ab5∧w4.heap.size<=w8.heap.size):=⟨hU.out.1,hU.out.2,hV.out.1,hV.out.2,h3.out,hF.size⟩
 replace C:=F9.blkAt C (.inl (by have:=hA.out;omega))
 replace O:=F9.blkAt O (.inl (by have:=hA.out;omega))
 replace A:=F9.blkAt A (.inl (by have:=hA.out;omega))
 replace G:=F9.blkAt G (.inr (by have:=hA.out;omega))
 replace M:=M.same (fun b h1 h2=>F9.blk b h2 (.inr (by have:=hA.out;omega)))
 replace Z:=F9.belowOf Z (by omega) Z.size
 replace hB:=F9.belowOf hB (by have:=hA.out;omega) hB.size
 have h6:=F9.size
 clear F9 X hF hI x0 x1 x2 x3 x4 x5
 have qa:¬ k9<0:=by omega
 obtain ⟨x0,x1,x2,x3,x4,x5⟩:=A.six
 obtain ⟨y0,y1,y2,y3,y4,y5⟩:=G.six
 go_wp2_with fail
 refine (kk_ 0 0 _ _ q w9 (M.t.at'.mono (Zg _)) ((R3.below Z).at'.mono (Zg _)) hH.small).mono ?_
 rintro e h5 ⟨rfl,hb⟩
 replace C:=C.below hb
 replace O:=O.below hb
 replace A:=A.below hb
 replace G:=G.below hb
 replace M:=M.below hb
 replace Z:=chain Z hb
 replace hB:=chain hB hb
 have hY:=hb.size
 clear hb x0 x1 x2 x3 x4 x5 y0 y1 y2 y3 y4 y5
 obtain ⟨y0,y1,y2,y3,y4,y5⟩:=G.six
 have qm:=if_ W4.heap.size _ q h5 M.k hH (by have:=hA.out;have:=G.lt;omega) ab5 _ G
 go_wp2_with fail
 refine qm.mono ?_
 rintro e h4 ⟨⟨k,rfl,MK,hk⟩,hb,G11⟩
 clear qm y0 y1 y2 y3 y4 y5 G M
 replace C:=C.lo hb (by have:=hA.out;omega)
 replace O:=O.lo hb (by have:=hA.out;omega)
 replace A:=A.lo hb (by have:=hA.out;omega)
 replace Z:=Z.trans (hb.mono (by have:=hA.out;omega))
 replace hB:=hB.trans (hb.mono (by have:=hA.out;omega))
 clear hb
 have h9:(((k:Nat):Int) != ((k:Nat):Int))=false:=by simp
 have qc:¬ ((k:Nat):Int)<0:=by omega
 obtain ⟨y0,y1,y2,y3,y4,y5⟩:=G11.six
 go_wp2_with fail
 refine (ig_ _ k h4 MK).mono ?_
 rintro e h0 ⟨rfl,hb⟩
 clear y0 y1 y2 y3 y4 y5
 replace C:=C.below hb
 replace O:=O.below hb
 replace A:=A.below hb
 replace G11:=G11.below hb
 replace MK:=MK.below hb
 replace Z:=chain Z hb
 replace hB:=chain hB hb
 clear hb
 obtain ⟨d0,d1,d2,d3,d4,d5⟩:=C.six
 obtain ⟨o0,o1,o2,o3,o4,o5,o6,o7,o8⟩:=ce9 O
 go_wp2_with fail
 refine region_cut (fun u=>u.cell? ⟨w.heap.size,0,none⟩=some (.int .i64 p.size)∧u.cell? ⟨w.heap.size,1,none⟩=some (.int .i64 p.next)∧u.cell? ⟨w.heap.size,2,none⟩=some (.slice ea en ec)∧u.cell? ⟨w.heap.size,3,none⟩=some (.slice va vn vc)∧u.cell? ⟨w.heap.size,4,none⟩=some (.slice ra rn rc)∧u.cell? ⟨w.heap.size,5,none⟩=some (.slice la ln lc)∧u.cell? ⟨w.heap.size+1,0,none⟩=some (.int .i64 o.k)∧u.cell? ⟨w.heap.size+1,1,none⟩=some (.string o.vol)∧u.cell? ⟨w.heap.size+1,2,none⟩=some (.string o.file)∧u.cell? ⟨w.heap.size+1,3,none⟩=some (.string o.to)∧u.cell? ⟨w.heap.size+1,4,none⟩=some (.string o.into)∧u.cell? ⟨w.heap.size+1,5,none⟩=some (.int .i64 o.at')∧u.cell? ⟨w.heap.size+1,6,none⟩=some (.int .i64 o.fr)∧u.cell? ⟨w.heap.size+1,7,none⟩=some (.int .i64 o.ln)∧u.cell? ⟨w.heap.size+1,8,none⟩=some (.string o.data)) 11 [85,86,87,88,89,84,90,91,14,15] (PhQ 14 15 c q h0 fun u v=>PoolT 0 u v q) (fun u hu=>⟨bcell hu d0,bcell hu d1,bcell hu d2,bcell hu d3,bcell hu d4,bcell hu d5,bcell hu o0,bcell hu o1,bcell hu o2,bcell hu o3,bcell hu o4,bcell hu o5,bcell hu o6,bcell hu o7,bcell hu o8⟩) ?walk14 ?rest14
 case walk14=>
  intro hc u0 hy hS
  refine tkc 0 ?_
  refine tkc 2 ?_
  refine twoC 1 8 (fun K hK=>?_) (fun K hK=>?_)
  ·skip
   go_simp
   refine (kj_ 0 _ p _ (h.below (chain hB hy)) hs).mono ?_
   rintro e u1 ⟨⟨v2,rfl,P2⟩,hC⟩
   have hn:=chain hy hC
   dsimp only
   refine hK.out _ _ (hc u1 hn) (fun hHeld=>?_)
   clear hK K
   try simp only [Act.put,lsA,lsB,lsC]
   refine twoC 3 8 (fun K hK=>?_) (fun K hK=>?_)
   ·skip
    go_simp
    refine (laws_toOp o _).mono ?_
    rintro e u2 ⟨rfl,hp⟩
    replace P2:=P2.below hp
    have hf:=chain hn hp
    dsimp only
    refine hK.out _ _ (hc u2 hf) (fun hHeld=>?_)
    clear hK K
    try simp only [Act.put,lsA,lsB,lsC]
    refine twoC 4 8 (fun K hK=>?_) (fun K hK=>?_)
    ·skip
     go_simp
     refine (ho _ _ u2 P2 (by omega) (hE.below (chain hB hf)) (Zl hgl (chain hB hf).size)).mono ?_
     rintro e u3 ⟨⟨v3,_,rfl,rfl,R3,_⟩,hm⟩
     obtain ⟨a,b,d,e,f,g,i,j,k,l,m,n,rfl⟩:=R3.t.at'.cells
     have he:=chain hf hm
     have hz:=hf.size
     dsimp only
     refine hK.out _ _ (hc u3 he) (fun hHeld=>?_)
     clear hK K
     try simp only [Act.put,lsA,lsB,lsC]
     refine tkc 5 ?_
     refine tkc 6 ?_
     refine tkc 7 ?_
     refine oneC 8 fun K hK=>?_
     go_simp
     obtain ⟨ab,u4,ha,hu,AB,hw,hq,hh⟩:=al6 he
     rw [<-hu,<-ha]
     clear hu ha
     replace R3:=R3.below hw
     refine hK.out _ _ (hc _ hq) (fun hHeld=>?_)
     clear hK K
     try simp only [Act.put,lsA,lsB,lsC]
     obtain ⟨t0,t1,t2,t3,t4,t5⟩:=AB.six
     obtain ⟨f0,f1,f2,f3,f4,f5⟩:=fz6 AB
     refine oneC 9 fun K hK=>?_
     go_simp
     obtain ⟨u9,ht,E9,hl⟩:=set6 AB (.int .i64 q.size) (.int .i64 q.next) (.slice a b d) (.slice e f g) (.slice i j k) (.slice l m n)
     rw [<-ht]
     have hj:=ao_ hq hl hh.out
     have R9:=R3.t.put hl AB
     refine hK.out _ _ (hc _ hj) (fun hHeld=>?_)
     clear hK K
     try simp only [Act.put,lsA,lsB,lsC]
     refine tkc 10 ?_
     refine wpAnyH_done (by kernel_rfl) ?_ _
     exact leafP E9 R9 hj hh
    ·skip
     go_simp
     obtain ⟨ab,u3,ha,hu,AB,hm,he,hh⟩:=al6 hf
     rw [<-hu,<-ha]
     clear hu ha
     replace P2:=P2.below hm
     refine hK.out _ _ (hc _ he) (fun hHeld=>?_)
     clear hK K
     try simp only [Act.put,lsA,lsB,lsC]
     refine oneC 4 fun K hK=>?_
     go_simp
     refine (ho _ _ u3 P2 (by omega) (hE.below (chain hB he)) (Zl hgl (chain hB he).size)).mono ?_
     rintro e u4 ⟨⟨v3,_,rfl,rfl,R3,_⟩,hw⟩
     obtain ⟨a,b,d,e,f,g,i,j,k,l,m,n,rfl⟩:=R3.t.at'.cells
     have hq:=chain he hw
     replace AB:=AB.below hw
     have hz:=he.size
     dsimp only
     refine hK.out _ _ (hc u4 hq) (fun hHeld=>?_)
     clear hK K
     try simp only [Act.put,lsA,lsB,lsC]
     refine tkc 5 ?_
     refine tkc 6 ?_
     refine tkc 7 ?_
     obtain ⟨t0,t1,t2,t3,t4,t5⟩:=AB.six
     obtain ⟨f0,f1,f2,f3,f4,f5⟩:=fz6 AB
     refine oneC 9 fun K hK=>?_
     go_simp
     obtain ⟨u9,ht,E9,hl⟩:=set6 AB (.int .i64 q.size) (.int .i64 q.next) (.slice a b d) (.slice e f g) (.slice i j k) (.slice l m n)
     rw [<-ht]
     have hj:=ao_ hq hl hh.out
     have R9:=R3.t.put hl AB
     refine hK.out _ _ (hc _ hj) (fun hHeld=>?_)
     clear hK K
     try simp only [Act.put,lsA,lsB,lsC]
     refine tkc 10 ?_
     refine wpAnyH_done (by kernel_rfl) ?_ _
     exact leafP E9 R9 hj hh
   ·skip
    go_simp
    obtain ⟨ab,u2,ha,hu,AB,hp,hf,hh⟩:=al6 hn
    rw [<-hu,<-ha]
    clear hu ha
    replace P2:=P2.below hp
    refine hK.out _ _ (hc _ hf) (fun hHeld=>?_)
    clear hK K
    try simp only [Act.put,lsA,lsB,lsC]
    refine oneC 3 fun K hK=>?_
    go_simp
    refine (laws_toOp o _).mono ?_
    rintro e u3 ⟨rfl,hm⟩
    replace P2:=P2.below hm
    have he:=chain hf hm
    replace AB:=AB.below hm
    dsimp only
    refine hK.out _ _ (hc u3 he) (fun hHeld=>?_)
    clear hK K
    try simp only [Act.put,lsA,lsB,lsC]
    refine oneC 4 fun K hK=>?_
    go_simp
    refine (ho _ _ u3 P2 (by omega) (hE.below (chain hB he)) (Zl hgl (chain hB he).size)).mono ?_
    rintro e u4 ⟨⟨v3,_,rfl,rfl,R3,_⟩,hw⟩
    obtain ⟨a,b,d,e,f,g,i,j,k,l,m,n,rfl⟩:=R3.t.at'.cells
    have hq:=chain he hw
    replace AB:=AB.below hw
    have hz:=he.size
    dsimp only
    refine hK.out _ _ (hc u4 hq) (fun hHeld=>?_)
    clear hK K
    try simp only [Act.put,lsA,lsB,lsC]
    refine tkc 5 ?_
    refine tkc 6 ?_
    refine tkc 7 ?_
    obtain ⟨t0,t1,t2,t3,t4,t5⟩:=AB.six
    obtain ⟨f0,f1,f2,f3,f4,f5⟩:=fz6 AB
    refine oneC 9 fun K hK=>?_
    go_simp
    obtain ⟨u9,ht,E9,hl⟩:=set6 AB (.int .i64 q.size) (.int .i64 q.next) (.slice a b d) (.slice e f g) (.slice i j k) (.slice l m n)
    rw [<-ht]
    have hj:=ao_ hq hl hh.out
    have R9:=R3.t.put hl AB
    refine hK.out _ _ (hc _ hj) (fun hHeld=>?_)
    clear hK K
    try simp only [Act.put,lsA,lsB,lsC]
    refine tkc 10 ?_
    refine wpAnyH_done (by kernel_rfl) ?_ _
    exact leafP E9 R9 hj hh
  ·skip
   go_simp
   obtain ⟨ab,u1,ha,hu,AB,hC,hn,hh⟩:=al6 hy
   rw [<-hu,<-ha]
   clear hu ha
   refine hK.out _ _ (hc _ hn) (fun hHeld=>?_)
   clear hK K
   try simp only [Act.put,lsA,lsB,lsC]
   refine oneC 1 fun K hK=>?_
   go_simp
   refine (kj_ 0 _ p _ (h.below (chain hB hn)) hs).mono ?_
   rintro e u2 ⟨⟨v2,rfl,P2⟩,hp⟩
   have hf:=chain hn hp
   replace AB:=AB.below hp
   dsimp only
   refine hK.out _ _ (hc u2 hf) (fun hHeld=>?_)
   clear hK K
   try simp only [Act.put,lsA,lsB,lsC]
   refine oneC 3 fun K hK=>?_
   go_simp
   refine (laws_toOp o _).mono ?_
   rintro e u3 ⟨rfl,hm⟩
   replace P2:=P2.below hm
   have he:=chain hf hm
   replace AB:=AB.below hm
   dsimp only
   refine hK.out _ _ (hc u3 he) (fun hHeld=>?_)
   clear hK K
   try simp only [Act.put,lsA,lsB,lsC]
   refine oneC 4 fun K hK=>?_
   go_simp
   refine (ho _ _ u3 P2 (by omega) (hE.below (chain hB he)) (Zl hgl (chain hB he).size)).mono ?_
   rintro e u4 ⟨⟨v3,_,rfl,rfl,R3,_⟩,hw⟩
   obtain ⟨a,b,d,e,f,g,i,j,k,l,m,n,rfl⟩:=R3.t.at'.cells
   have hq:=chain he hw
   replace AB:=AB.below hw
   have hz:=he.size
   dsimp only
   refine hK.out _ _ (hc u4 hq) (fun hHeld=>?_)
   clear hK K
   try simp only [Act.put,lsA,lsB,lsC]
   refine tkc 5 ?_
   refine tkc 6 ?_
   refine tkc 7 ?_
   obtain ⟨t0,t1,t2,t3,t4,t5⟩:=AB.six
   obtain ⟨f0,f1,f2,f3,f4,f5⟩:=fz6 AB
   refine oneC 9 fun K hK=>?_
   go_simp
   obtain ⟨u9,ht,E9,hl⟩:=set6 AB (.int .i64 q.size) (.int .i64 q.next) (.slice a b d) (.slice e f g) (.slice i j k) (.slice l m n)
   rw [<-ht]
   have hj:=ao_ hq hl hh.out
   have R9:=R3.t.put hl AB
   refine hK.out _ _ (hc _ hj) (fun hHeld=>?_)
   clear hK K
   try simp only [Act.put,lsA,lsB,lsC]
   refine tkc 10 ?_
   refine wpAnyH_done (by kernel_rfl) ?_ _
   exact leafP E9 R9 hj hh
 clear d0 d1 d2 d3 d4 d5 o0 o1 o2 o3 o4 o5 o6 o7 o8 C O ho
 rintro x hZ ⟨ab7,a7,b7,d7,e7,f7,g7,i7,j7,k7,l7,m7,n7,e6,e7,T,M7,hb,hP⟩
 simp only [putAll,List.foldl_cons,List.foldl_nil,e6,e7]
 try simp only [Act.put,lsA,lsB,lsC]
 clear e6 e7 hP
 replace A:=A.below hb
 replace G11:=G11.below hb
 replace MK:=MK.below hb
 replace Z:=chain Z hb
 replace hB:=chain hB hb
 clear hb
 obtain ⟨x0,x1,x2,x3,x4,x5⟩:=A.six
 obtain ⟨y0,y1,y2,y3,y4,y5⟩:=T.six
 go_wp2_with fail
 refine (kk_ 0 0 _ _ q hZ (M7.at'.mono (Zg _)) ((R3.below Z).at'.mono (Zg _)) hH.small).mono ?_
 rintro e hX ⟨rfl,hb⟩
 replace G11:=G11.below hb
 replace MK:=MK.below hb
 replace Z:=chain Z hb
 replace hB:=chain hB hb
 clear hb x0 x1 x2 x3 x4 x5 y0 y1 y2 y3 y4 y5 T M7
 obtain ⟨y0,y1,y2,y3,y4,y5⟩:=G11.six
 go_wp2_with fail
 refine (ig_ _ k hX MK).mono ?_
 rintro e qb ⟨rfl,hb⟩
 replace hB:=chain hB hb
 clear hb y0 y1 y2 y3 y4 y5
 go_wp2
 go_returns
 exact ⟨rfl,hB⟩
end
section
open Go Go.ChangeShapes Go.WideShapes Go.ChangeAt Go.RowKit Go.Deep Go.Joins Go.BigFrame _root_.Go.Proofs.Tryz
theorem laid_drop2 {P:Program} {x y:String×DataW Unit} {r:List (String×DataW Unit)} {w:World} (h:laidMet P (x::y::r) w):laidMet P (x::r) w:=by
 obtain ⟨ps,hv,hnd,ha⟩:=h
 obtain ⟨n,d⟩:=x
 obtain ⟨m,d2⟩:=y
 obtain ⟨g,t,cs,fuel,p,q,a1,a2,a3,a4,⟨g2,t2,cs2,fuel2,p2,q2,_,_,_,_,b5,rfl⟩,rfl⟩:=hv
 have hs:(MemPlace.row ⟨g,0,none⟩ cs.size++p++q2).Sublist (MemPlace.row ⟨g,0,none⟩ cs.size++p++(MemPlace.row ⟨g2,0,none⟩ cs2.size++p2++q2)):=(List.Sublist.refl _).append (List.sublist_append_right _ _)
 exact ⟨_,⟨g,t,cs,fuel,p,q2,a1,a2,a3,a4,b5,rfl⟩,hnd.sublist hs,fun b off hm=>ha b off (hs.subset hm)⟩
theorem ownL:ownKnob prog.godebug=none:=by kernel_rfl
theorem starL:"*"++"errors.errorString"="*errors.errorString":=by decide
theorem rowL (u:TypeId) (h:prog.typeName? 3 u=some "*errors.errorString"):u=315:=
 typeName_ptr_named (nm:="errors.errorString") (by rw [starL];kernel_rfl) (by kernel_rfl) (by decide) u (by rw [starL];exact h)
theorem cellsE:prog.cellsOf 335=1:=by kernel_rfl
theorem cells9L:prog.cellsOf 9=1:=by kernel_rfl
theorem two_of {W:World} {n0 n1:String} {text0 text1:List UInt8} {r:List (String×DataW Unit)} {g0 g1:Nat} (h:laidMet prog ((n0,.iface "*errors.errorString" (.ptr (.agg [.lit (.string text0)])))::(n1,.iface "*errors.errorString" (.ptr (.agg [.lit (.string text1)])))::r) W) (hg0:prog.globalNamed n0=some g0) (ht0:(prog.globals[g0]?).map (·.type)=some 64) (hg1:prog.globalNamed n1=some g1) (ht1:(prog.globals[g1]?).map (·.type)=some 64):∃ a0 a1,Two W n0 n1 a0 a1:=by
 obtain ⟨a0,a1,s0,s1,c0,c1,t0,t1,hc,ha,hh,hk,hl,hg,hj,hm,hb,hf,he⟩:=laid_sentinels2 h hg0 ht0 hg1 ht1 underlying64 rowL underlying315 underlying335 rfl rfl underlying9 cellsE cells9L
 exact ⟨a0,a1,hc,ha,hb,⟨c0,t0,hf⟩,⟨c1,t1,he⟩⟩
theorem ten_of {W:World} (h:laidMetH prog laidErr W):∃ ep a_errOp a_errVolume a_errFile a_errBytes a_errThere a_errFixed a_errRoom a_errParts a_errAfter,Ten W ep a_errOp a_errVolume a_errFile a_errBytes a_errThere a_errFixed a_errRoom a_errParts a_errAfter:=by
 have h':laidMet prog laidS10 W∧handlesMet prog [("errors.errorType",Rows.laid_errors_errorType)] W:=h
 have q1:=h'.1
 unfold laidS10 at q1
 obtain ⟨e0,a_errOp,ha⟩:=two_of q1 ih_ mt_ lr_ pd_
 replace q1:=laid_drop2 q1
 obtain ⟨e1,a_errVolume,hb⟩:=two_of q1 ih_ mt_ gb_ jM_
 replace q1:=laid_drop2 q1
 obtain ⟨e2,a_errFile,hk⟩:=two_of q1 ih_ mt_ ii_ mu_
 replace q1:=laid_drop2 q1
 obtain ⟨e3,a_errBytes,hg⟩:=two_of q1 ih_ mt_ gO_ ls_
 replace q1:=laid_drop2 q1
 obtain ⟨e4,a_errThere,he⟩:=two_of q1 ih_ mt_ gP_ lt_
 replace q1:=laid_drop2 q1
 obtain ⟨e5,a_errFixed,hh⟩:=two_of q1 ih_ mt_ gQ_ lu_
 replace q1:=laid_drop2 q1
 obtain ⟨e6,a_errRoom,hj⟩:=two_of q1 ih_ mt_ ij_ mv_
 replace q1:=laid_drop2 q1
 obtain ⟨e7,a_errParts,hc⟩:=two_of q1 ih_ mt_ gR_ lv_
 replace q1:=laid_drop2 q1
 obtain ⟨e8,a_errAfter,hf⟩:=two_of q1 ih_ mt_ gS_ lw_
 obtain rfl:=ha.same hb
 obtain rfl:=ha.same hk
 obtain rfl:=ha.same hg
 obtain rfl:=ha.same he
 obtain rfl:=ha.same hh
 obtain rfl:=ha.same hj
 obtain rfl:=ha.same hc
 obtain rfl:=ha.same hf
 exact ⟨_,a_errOp,a_errVolume,a_errFile,a_errBytes,a_errThere,a_errFixed,a_errRoom,a_errParts,a_errAfter,ha,hb,hk,hg,he,hh,hj,hc,hf⟩
theorem array9 {α:Type} {cs:Array α} (h:cs.size=9):∃ c0 c1 c2 c3 c4 c5 c6 c7 c8,cs=#[c0,c1,c2,c3,c4,c5,c6,c7,c8]:=by
 obtain ⟨l⟩:=cs
 match l,h with
 |[c0,c1,c2,c3,c4,c5,c6,c7,c8],_=>exact ⟨c0,c1,c2,c3,c4,c5,c6,c7,c8,rfl⟩
theorem open_op {H:Type} {enc:TypeId×Value->H} {W:World} {r:Reach} {b0:Nat} {base:Nat} {spare:Nat->Bool} {held:Bool} {v:Value} {d:DataW H} {p:List MemPlace}
  (hv:Value.okWide prog W r b0 28 v) (h:DataW.Trod enc prog W base spare held 28 v d p) :
  ∃ k vol file tt into at' fr ln data,v=.agg #[.int .i64 k,.string vol,.string file,.string tt,.string into,.int .i64 at',.int .i64 fr,.int .i64 ln,.string data]∧StrO ⟨k,vol,file,tt,into,at',fr,ln,data⟩:=by
 have hc:prog.cellsOf 28=9:=by kernel_rfl
 have hb:prog.cellsOf 2=1:=by kernel_rfl
 have ha:prog.cellsOf 9=1:=by kernel_rfl
 obtain ⟨cs,rfl,hg⟩:=okWide_struct underlying28 hv
 obtain ⟨c0,c1,c2,c3,c4,c5,c6,c7,c8,rfl⟩:=array9 (hg.trans hc)
 obtain ⟨fuel,hf⟩:=h
 obtain ⟨xs,n,_,_,_,he,hx⟩:=DataW.trod_struct underlying28 hf
 have len9:xs.length=9:=he
 have q0:DataW.trod enc prog W base spare held n 2 [c0]=some (xs[0]'(by omega)):=by
  have:=hx 0 _ rfl
  rw [ZI (by omega)] at this
  simpa [Value.cells,hb] using this
 have q1:DataW.trod enc prog W base spare held n 9 [c1]=some (xs[1]'(by omega)):=by
  have:=hx 1 _ rfl
  rw [ZI (by omega)] at this
  simpa [Value.cells,ha] using this
 have q2:DataW.trod enc prog W base spare held n 9 [c2]=some (xs[2]'(by omega)):=by
  have:=hx 2 _ rfl
  rw [ZI (by omega)] at this
  simpa [Value.cells,ha] using this
 have q3:DataW.trod enc prog W base spare held n 9 [c3]=some (xs[3]'(by omega)):=by
  have:=hx 3 _ rfl
  rw [ZI (by omega)] at this
  simpa [Value.cells,ha] using this
 have q4:DataW.trod enc prog W base spare held n 9 [c4]=some (xs[4]'(by omega)):=by
  have:=hx 4 _ rfl
  rw [ZI (by omega)] at this
  simpa [Value.cells,ha] using this
 have q5:DataW.trod enc prog W base spare held n 2 [c5]=some (xs[5]'(by omega)):=by
  have:=hx 5 _ rfl
  rw [ZI (by omega)] at this
  simpa [Value.cells,hb] using this
 have q6:DataW.trod enc prog W base spare held n 2 [c6]=some (xs[6]'(by omega)):=by
  have:=hx 6 _ rfl
  rw [ZI (by omega)] at this
  simpa [Value.cells,hb] using this
 have q7:DataW.trod enc prog W base spare held n 2 [c7]=some (xs[7]'(by omega)):=by
  have:=hx 7 _ rfl
  rw [ZI (by omega)] at this
  simpa [Value.cells,hb] using this
 have q8:DataW.trod enc prog W base spare held n 9 [c8]=some (xs[8]'(by omega)):=by
  have:=hx 8 _ rfl
  rw [ZI (by omega)] at this
  simpa [Value.cells,ha] using this
 obtain ⟨n0,e0,_,_⟩:=DataW.trod_int underlying2 q0
 obtain ⟨s1,e1,_,z1⟩:=DataW.trod_string underlying9 q1
 obtain ⟨s2,e2,_,z2⟩:=DataW.trod_string underlying9 q2
 obtain ⟨s3,e3,_,z3⟩:=DataW.trod_string underlying9 q3
 obtain ⟨s4,e4,_,z4⟩:=DataW.trod_string underlying9 q4
 obtain ⟨n5,e5,_,_⟩:=DataW.trod_int underlying2 q5
 obtain ⟨n6,e6,_,_⟩:=DataW.trod_int underlying2 q6
 obtain ⟨n7,e7,_,_⟩:=DataW.trod_int underlying2 q7
 obtain ⟨s8,e8,_,z8⟩:=DataW.trod_string underlying9 q8
 simp at e0 e1 e2 e3 e4 e5 e6 e7 e8
 subst e0 e1 e2 e3 e4 e5 e6 e7 e8
 unfold maxLen at z1 z2 z3 z4 z8
 exact ⟨n0,s1,s2,s3,s4,n5,n6,n7,s8,rfl,⟨by dsimp only;omega,by dsimp only;omega,by dsimp only;omega,by dsimp only;omega,by dsimp only;omega⟩⟩
theorem laidOutL:laidOutB prog=true:=by kernel_rfl
end
end Go.Proofs.YtbbhcnjhohidnaaGreatDoor
