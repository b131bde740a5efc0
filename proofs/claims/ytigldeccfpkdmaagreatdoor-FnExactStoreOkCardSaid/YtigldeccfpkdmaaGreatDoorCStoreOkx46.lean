/- The laws' copies of lists of items and volumes. The laws' copies of volumes. How the laws' arguments, as they are read, lie in memory: lists of extents. The laws' copies of lists of counts; how the laws' arguments, as they are read, lie in memory: owners and lists of counts. The laws' sizes, copies and comparisons of pools. -/
import Derived.Test.YtigldeccfpkdmaaGreatDoorProg
import Derived.Test.YtigldeccfpkdmaaGreatDoorK08
import Derived.Test.YtigldeccfpkdmaaGreatDoorK14
import Derived.Test.YtigldeccfpkdmaaGreatDoorCStoreOkx45
import Derived.Test.YtigldeccfpkdmaaGreatDoorK00
import Derived.Lib.SmallJoins
import Derived.Test.YtigldeccfpkdmaaGreatDoorK07
namespace Go.Proofs.YtigldeccfpkdmaaGreatDoor
open Go.RowKit Go.BigFrame
set_option maxHeartbeats 20000000
set_option maxRecDepth 100000
theorem gset (w:World) (b i:Nat) (v:Value):w.grownBy (w.setCell ⟨b,i,none⟩ v) (some b):=ac_ (World.grownBy.refl _ _) i v
theorem oa_ {w w1:World} {c0 c1 c2:Array Value} {t0 t1 t2:TypeId} (hb:Below (((w.alloc (.cells c0 t0)).alloc (.cells c1 t1)).alloc (.cells c2 t2)).heap.size (((w.alloc (.cells c0 t0)).alloc (.cells c1 t1)).alloc (.cells c2 t2)) w1) :
  Blk w1 w.heap.size c0 t0∧Blk w1 (w.heap.size+1) c1 t1∧Blk w1 (w.heap.size+1+1) c2 t2∧Below w.heap.size w w1:=by
 refine ⟨?_,?_,?_,chain (by go_grown) hb⟩
 ·have:=(((Blk.new w c0 t0).alloc (.cells c1 t1)).alloc (.cells c2 t2)).below hb
  simpa using this
 ·have:=((Blk.new (w.alloc (.cells c0 t0)) c1 t1).alloc (.cells c2 t2)).below hb
  simpa using this
 ·have:=(Blk.new ((w.alloc (.cells c0 t0)).alloc (.cells c1 t1)) c2 t2).below hb
  simpa using this
theorem ke_ (nm:ByteArray) (pa:Option Addr) (pn pc:Nat) (ps:List Pt) (w:World) (h:PtsAt w pa pn ps) (hn:pn<=4194304) :
  Calls Tryz.prog 215 #[.agg #[.string nm,.slice pa pn pc]] w fun e w'=>(∃ b,w.heap.size<=b∧e=.returned (.agg #[.string nm,.slice (some ⟨b,0,none⟩) pn pn])∧OwnAt Pt.cs 3 141 w' b pn ps)∧Below w.heap.size w w':=by
 go_enter Tryz.func215,Tryz.ntmps215
 go_wp2_with fail
 refine (is_ pa pn pc ps _ (h.below (by go_grown)) hn).mono ?_
 rintro e w1 ⟨rfl,o1,hB1⟩
 obtain ⟨k0,k1,k2,hB2⟩:=oa_ hB1
 clear hB1
 have S:=o1
 simp only [World.size_alloc] at S ⊢
 have hlt:=o1.lt
 simp only [World.size_alloc] at hlt
 have g1:=k2.frozen 1
 have y0:w1.cell? ⟨w.heap.size+1+1,0,none⟩=some (.string nm):=k2.cell 0
 have y1:w1.cell? ⟨w.heap.size+1+1,1,none⟩=some (.slice none 0 0):=k2.cell 1
 have f0:=k1.frozen 0
 have f1:=k1.frozen 1
 have z0:w1.cell? ⟨w.heap.size+1,0,none⟩=some (.string ⟨#[]⟩):=k1.cell 0
 have z1:w1.cell? ⟨w.heap.size+1,1,none⟩=some (.slice none 0 0):=k1.cell 1
 have hW:Blk (((w1.setCell ⟨w.heap.size+1+1,1,none⟩ (.slice (some ⟨w.heap.size+1+1+1,0,none⟩) pn pn)).setCell ⟨w.heap.size+1,0,none⟩ (.string nm)).setCell ⟨w.heap.size+1,1,none⟩ (.slice (some ⟨w.heap.size+1+1+1,0,none⟩) pn pn)) (w.heap.size+1) #[.string nm,(.slice (some ⟨w.heap.size+1+1+1,0,none⟩) pn pn)] 139:=by
  have:=((k1.other ⟨w.heap.size+1+1,1,none⟩ (.slice (some ⟨w.heap.size+1+1+1,0,none⟩) pn pn) (by simp)).set 0 (.string nm)).set 1 (.slice (some ⟨w.heap.size+1+1+1,0,none⟩) pn pn)
  simpa using this
 have hBW:Below w.heap.size w (((w1.setCell ⟨w.heap.size+1+1,1,none⟩ (.slice (some ⟨w.heap.size+1+1+1,0,none⟩) pn pn)).setCell ⟨w.heap.size+1,0,none⟩ (.string nm)).setCell ⟨w.heap.size+1,1,none⟩ (.slice (some ⟨w.heap.size+1+1+1,0,none⟩) pn pn)):=by
  refine ((hB2.setCell ?_ _).setCell ?_ _).setCell ?_ _
  all_goals (simp;try omega)
 have hS:OwnAt Pt.cs 3 141 (((w1.setCell ⟨w.heap.size+1+1,1,none⟩ (.slice (some ⟨w.heap.size+1+1+1,0,none⟩) pn pn)).setCell ⟨w.heap.size+1,0,none⟩ (.string nm)).setCell ⟨w.heap.size+1,1,none⟩ (.slice (some ⟨w.heap.size+1+1+1,0,none⟩) pn pn)) (w.heap.size+1+1+1) pn ps:=
  ((S.grown (gset _ (w.heap.size+1+1) 1 (.slice (some ⟨w.heap.size+1+1+1,0,none⟩) pn pn)) (by simp only [ne_eq];omega)).grown (gset _ (w.heap.size+1) 0 (.string nm)) (by simp only [ne_eq];omega)).grown (gset _ (w.heap.size+1) 1 (.slice (some ⟨w.heap.size+1+1+1,0,none⟩) pn pn)) (by simp only [ne_eq];omega)
 clear k0 k1 k2 S o1
 go_wp2
 generalize ((w1.setCell ⟨w.heap.size+1+1,1,none⟩ (.slice (some ⟨w.heap.size+1+1+1,0,none⟩) pn pn)).setCell ⟨w.heap.size+1,0,none⟩ (.string nm)).setCell ⟨w.heap.size+1,1,none⟩ (.slice (some ⟨w.heap.size+1+1+1,0,none⟩) pn pn)=W8 at *
 refine bodyPost_ret (results_cell_row rfl _ W8 (w.heap.size+1) _ _ _ _ rfl hW Tryz.underlying139 rfl (by kernel_rfl)) rfl ?_
 exact ⟨⟨w.heap.size+1+1+1,by omega,rfl,hS⟩,hBW⟩
theorem iw_ (B:Nat) (a:Option Addr) (n cap:Nat) (l:List It) (w:World) (h:ItsAt B w a n l) (hn:n<=1048576) (hps:∀ x∈l,x.ps.length<=4194304) :
  Calls Tryz.prog 185 #[.slice a n cap] w fun e w'=>(e=.returned (.slice (some ⟨w.heap.size,0,none⟩) n n)∧ItsAt w.heap.size w' (some ⟨w.heap.size,0,none⟩) n l)∧Below w.heap.size w w':=by
 have hlen':Hid (l.length=n):=h.len
 have hinfo:(Tryz.prog.info? 139).map (fun i=>(i.zero,i.size,i.bytes))=some (some (.agg #[.string .empty,.slice none 0 0]),2,40):=by kernel_rfl
 obtain ⟨i0,hi,hz0,hz1,hz2⟩:=info_parts hinfo
 have hmk:∀ u:World,(Instr.makeSlice 126 (.int .i64 (n:Int)) (.int .i64 (n:Int))).run Tryz.prog u =
   .ok (.slice (some ⟨u.heap.size,0,none⟩) n n) (u.alloc (.cells (madeCells #[.string .empty,.slice none 0 0] (n*2)) 139)):=fun u=>by
  have hm:=run_make (P:=Tryz.prog) u 126 139 i0 (.agg #[.string .empty,.slice none 0 0]) Tryz.underlying126 hi hz0 .i64 .i64 (n:Int) (n:Int) (by omega) (Int.le_refl _) (by rw [hz2];omega) (by omega)
  simpa [hz1,Value.cells] using hm
 clear hinfo hi hz0 hz1 hz2
 go_enter Tryz.func185,Tryz.ntmps185
 go_wp2_with fail
 go_loopw [4] (fun ix wr=>∃ (k:Nat) (c:Array Value),k<=n∧ix=.int .i64 k∧Blk wr w.heap.size c 139∧Hid (c.size=n*2)∧FillI (w.heap.size+1) wr c l k∧Below w.heap.size w wr) (fun ix _=>n-(intOf ix).toNat)
 case atStart=>exact ⟨0,_,Nat.zero_le _,rfl,Blk.new _ _ _,size_madeCells _ _,fun i p hi=>by omega,(Below.refl _ _).alloc (Nat.le_refl _) _⟩
 case round=>
  obtain ⟨k,c,hk,rfl,hblk,hcs,hcc,hB⟩:=hrel
  by_cases hlt:k<n
  ·obtain ⟨b,o,x,pa,pn,pc,rfl,hp,c0,c1,hP,_,_,_⟩:=bt_ (h.below hB) hlt
   have hp':Hid (l[k]?=some x):=hp
   have hpn:pn<=4194304:=by have:=hps x (List.mem_of_getElem? hp);rw [hP.len] at this;exact this
   have hbl:=hblk.lt
   clear hp hmk
   go_wp2_with fail
   refine (ke_ x.nm pa pn pc x.ps _ hP hpn).mono ?_
   rintro e w1 ⟨⟨nb,hnb,rfl,hQ⟩,hB1⟩
   have hb1:=hblk.below hB1
   have hc1:=hcc.below hB1
   have f0:=hb1.frozen (k*2)
   have f1:=hb1.frozen (k*2+1)
   have hsz:=hB.size
   obtain ⟨v0,y0⟩:=hb1.has (i:=k*2) (by rw [hcs.out];omega)
   obtain ⟨v1,y1⟩:=hb1.has (i:=k*2+1) (by rw [hcs.out];omega)
   go_wp2
   go_roundw
   case rel=>
    refine ⟨k+1,_,by omega,by go_num,(hb1.set _ _).set _ _,by show _=_;simp [hcs.out],?_,?_⟩
    ·have hc2:=(hc1.grown (gset _ w.heap.size (k*2) (.string x.nm)) (by omega)).grown (gset _ w.heap.size (k*2+1) (.slice (some ⟨nb,0,none⟩) pn pn)) (by omega)
     have hQ2:=(hQ.grown (gset _ w.heap.size (k*2) (.string x.nm)) (by simp only [ne_eq];omega)).grown (gset _ w.heap.size (k*2+1) (.slice (some ⟨nb,0,none⟩) pn pn)) (by simp only [ne_eq];omega)
     intro i q hi hq
     have hcs':=hcs.out
     by_cases hik:i=k
     ·subst hik
      obtain rfl:x=q:=by rw [hp'.out] at hq;exact Option.some.inj hq
      obtain ⟨cq,hcq,_⟩:=hQ2.blk
      refine ⟨some ⟨nb,0,none⟩,pn,pn,?_,?_,hQ2.sl,eO_ nb pn (by omega),fun ad e=>(by cases e;show _<=nb;omega),dM_ hcq (by omega)⟩
      all_goals (simp [Array.getElem?_setIfInBounds];omega)
     ·obtain ⟨qa,qn,qc,r0,r1,r2⟩:=hc2 i q (by omega) hq
      refine ⟨qa,qn,qc,?_,?_,r2⟩
      all_goals (rw [Array.getElem?_setIfInBounds_ne (by omega),Array.getElem?_setIfInBounds_ne (by omega)];assumption)
    ·exact ((chain hB hB1).setCell (by simp) _).setCell (by simp) _
   case measure=>simp [intOf];omega
  ·obtain rfl:k=n:=by omega
   go_wp2
   go_returns
   go_light
   refine ⟨⟨rfl,hlen'.out,fun i x hx=>?_⟩,hB⟩
   have hi:i<k:=by have:=(List.getElem?_eq_some_iff.1 hx).1;rw [hlen'.out] at this;exact this
   obtain ⟨pa,pn,pc,r0,r1,r2,r3,r4,r5⟩:=hcc i x hi hx
   refine ⟨w.heap.size,0,pa,pn,pc,rfl,?_,?_,r2,r3.mono (by omega),Nat.le_refl _,fun ad had=>(by have:=r4 ad had;omega),r5.mono (by omega),dM_ hblk (Nat.le_refl _)⟩
   ·rw [Nat.zero_add,hblk.cell];exact r0
   ·rw [Nat.zero_add,hblk.cell];exact r1
theorem gU_ (B:Nat) (v:Vo) (pa:Option Addr) (pn pc:Nat) (w:World) (h:ItsAt B w pa pn v.its) (hn:pn<=1048576) (hps:∀ x∈v.its,x.ps.length<=4194304) :
  Calls Tryz.prog 125 #[.agg #[.int .i64 v.id,.string v.nm,.bool v.fx,.slice pa pn pc]] w fun e w'=>(∃ b,w.heap.size<=b∧e=.returned (.agg #[.int .i64 v.id,.string v.nm,.bool v.fx,.slice (some ⟨b,0,none⟩) pn pn])∧ItsAt b w' (some ⟨b,0,none⟩) pn v.its)∧Below w.heap.size w w':=by
 obtain ⟨id,nm,fx,its⟩:=v
 simp only at h hps ⊢
 go_enter Tryz.func125,Tryz.ntmps125
 go_wp2_with fail
 refine (iw_ B pa pn pc its _ (h.below (by go_grown)) hn hps).mono ?_
 rintro e w1 ⟨⟨rfl,S⟩,hB1⟩
 obtain ⟨k0,k1,k2,hB2⟩:=oa_ hB1
 have hlt:=hB1.size
 clear hB1
 simp only [World.size_alloc] at S hlt ⊢
 have g3:=k2.frozen 3
 have y0:w1.cell? ⟨w.heap.size+1+1,0,none⟩=some (.int .i64 id):=k2.cell 0
 have y1:w1.cell? ⟨w.heap.size+1+1,1,none⟩=some (.string nm):=k2.cell 1
 have y2:w1.cell? ⟨w.heap.size+1+1,2,none⟩=some (.bool fx):=k2.cell 2
 have y3:w1.cell? ⟨w.heap.size+1+1,3,none⟩=some (.slice none 0 0):=k2.cell 3
 have f0:=k1.frozen 0
 have f1:=k1.frozen 1
 have f2:=k1.frozen 2
 have f3:=k1.frozen 3
 have z0:w1.cell? ⟨w.heap.size+1,0,none⟩=some (.int .i64 0):=k1.cell 0
 have z1:w1.cell? ⟨w.heap.size+1,1,none⟩=some (.string ⟨#[]⟩):=k1.cell 1
 have z2:w1.cell? ⟨w.heap.size+1,2,none⟩=some (.bool false):=k1.cell 2
 have z3:w1.cell? ⟨w.heap.size+1,3,none⟩=some (.slice none 0 0):=k1.cell 3
 have hW:Blk (((((w1.setCell ⟨w.heap.size+1+1,3,none⟩ (.slice (some ⟨w.heap.size+1+1+1,0,none⟩) pn pn)).setCell ⟨w.heap.size+1,0,none⟩ (.int .i64 id)).setCell ⟨w.heap.size+1,1,none⟩ (.string nm)).setCell ⟨w.heap.size+1,2,none⟩ (.bool fx)).setCell ⟨w.heap.size+1,3,none⟩ (.slice (some ⟨w.heap.size+1+1+1,0,none⟩) pn pn)) (w.heap.size+1) #[.int .i64 id,.string nm,.bool fx,.slice (some ⟨w.heap.size+1+1+1,0,none⟩) pn pn] 128:=by
  have:=((((k1.other ⟨w.heap.size+1+1,3,none⟩ (.slice (some ⟨w.heap.size+1+1+1,0,none⟩) pn pn) (by simp)).set 0 (.int .i64 id)).set 1 (.string nm)).set 2 (.bool fx)).set 3 (.slice (some ⟨w.heap.size+1+1+1,0,none⟩) pn pn)
  simpa using this
 have hBW:Below w.heap.size w (((((w1.setCell ⟨w.heap.size+1+1,3,none⟩ (.slice (some ⟨w.heap.size+1+1+1,0,none⟩) pn pn)).setCell ⟨w.heap.size+1,0,none⟩ (.int .i64 id)).setCell ⟨w.heap.size+1,1,none⟩ (.string nm)).setCell ⟨w.heap.size+1,2,none⟩ (.bool fx)).setCell ⟨w.heap.size+1,3,none⟩ (.slice (some ⟨w.heap.size+1+1+1,0,none⟩) pn pn)):=by
  refine ((((hB2.setCell ?_ _).setCell ?_ _).setCell ?_ _).setCell ?_ _).setCell ?_ _
  all_goals (simp;try omega)
 have hS:ItsAt (w.heap.size+1+1+1) (((((w1.setCell ⟨w.heap.size+1+1,3,none⟩ (.slice (some ⟨w.heap.size+1+1+1,0,none⟩) pn pn)).setCell ⟨w.heap.size+1,0,none⟩ (.int .i64 id)).setCell ⟨w.heap.size+1,1,none⟩ (.string nm)).setCell ⟨w.heap.size+1,2,none⟩ (.bool fx)).setCell ⟨w.heap.size+1,3,none⟩ (.slice (some ⟨w.heap.size+1+1+1,0,none⟩) pn pn)) (some ⟨w.heap.size+1+1+1,0,none⟩) pn its:=
  ((((S.grown (gset _ (w.heap.size+1+1) 3 _) (by omega)).grown (gset _ (w.heap.size+1) 0 _) (by omega)).grown (gset _ (w.heap.size+1) 1 _) (by omega)).grown (gset _ (w.heap.size+1) 2 _) (by omega)).grown (gset _ (w.heap.size+1) 3 _) (by omega)
 clear k0 k1 k2 S
 go_wp2
 generalize ((((w1.setCell ⟨w.heap.size+1+1,3,none⟩ (.slice (some ⟨w.heap.size+1+1+1,0,none⟩) pn pn)).setCell ⟨w.heap.size+1,0,none⟩ (.int .i64 id)).setCell ⟨w.heap.size+1,1,none⟩ (.string nm)).setCell ⟨w.heap.size+1,2,none⟩ (.bool fx)).setCell ⟨w.heap.size+1,3,none⟩ (.slice (some ⟨w.heap.size+1+1+1,0,none⟩) pn pn)=W8 at *
 refine bodyPost_ret (results_cell_row rfl _ W8 (w.heap.size+1) _ _ _ _ rfl hW Tryz.underlying128 rfl (by kernel_rfl)) rfl ?_
 exact ⟨⟨w.heap.size+1+1+1,by omega,rfl,hS⟩,hBW⟩
theorem gu_ (B:Nat) (a:Option Addr) (n cap:Nat) (l:List Vo) (w:World) (h:VsAt B w a n l) (hn:n<=1048576) (hps:∀ v∈l,v.its.length<=1048576∧∀ x∈v.its,x.ps.length<=4194304) :
  Calls Tryz.prog 58 #[.slice a n cap] w fun e w'=>(e=.returned (.slice (some ⟨w.heap.size,0,none⟩) n n)∧VsAt w.heap.size w' (some ⟨w.heap.size,0,none⟩) n l)∧Below w.heap.size w w':=by
 have hlen':Hid (l.length=n):=h.len
 have hinfo:(Tryz.prog.info? 128).map (fun i=>(i.zero,i.size,i.bytes))=some (some (.agg #[.int .i64 0,.string .empty,.bool false,.slice none 0 0]),4,56):=by kernel_rfl
 obtain ⟨i0,hi,hz0,hz1,hz2⟩:=info_parts hinfo
 have hmk:∀ u:World,(Instr.makeSlice 23 (.int .i64 (n:Int)) (.int .i64 (n:Int))).run Tryz.prog u =
   .ok (.slice (some ⟨u.heap.size,0,none⟩) n n) (u.alloc (.cells (madeCells #[.int .i64 0,.string .empty,.bool false,.slice none 0 0] (n*4)) 128)):=fun u=>by
  have hm:=run_make (P:=Tryz.prog) u 23 128 i0 (.agg #[.int .i64 0,.string .empty,.bool false,.slice none 0 0]) Tryz.underlying23 hi hz0 .i64 .i64 (n:Int) (n:Int) (by omega) (Int.le_refl _) (by rw [hz2];omega) (by omega)
  simpa [hz1,Value.cells] using hm
 clear hinfo hi hz0 hz1 hz2
 go_enter Tryz.func58,Tryz.ntmps58
 go_wp2_with fail
 go_loopw [4] (fun ix wr=>∃ (k:Nat) (c:Array Value),k<=n∧ix=.int .i64 k∧Blk wr w.heap.size c 128∧Hid (c.size=n*4)∧FillV (w.heap.size+1) wr c l k∧Below w.heap.size w wr) (fun ix _=>n-(intOf ix).toNat)
 case atStart=>exact ⟨0,_,Nat.zero_le _,rfl,Blk.new _ _ _,size_madeCells _ _,fun i p hi=>by omega,(Below.refl _ _).alloc (Nat.le_refl _) _⟩
 case round=>
  obtain ⟨k,c,hk,rfl,hblk,hcs,hcc,hB⟩:=hrel
  by_cases hlt:k<n
  ·obtain ⟨b,o,x,pa,pn,pc,rfl,hp,c0,c1,c2,c3,hP,_,_⟩:=cg_ (h.below hB) hlt
   have hp':Hid (l[k]?=some x):=hp
   obtain ⟨q1,q2⟩:=hps x (List.mem_of_getElem? hp)
   rw [hP.len] at q1
   have hbl:=hblk.lt
   clear hp hmk
   go_wp2_with fail
   refine (gU_ B x pa pn pc _ hP q1 q2).mono ?_
   rintro e w1 ⟨⟨nb,hnb,rfl,hQ⟩,hB1⟩
   have hb1:=hblk.below hB1
   have hc1:=hcc.below hB1
   have f0:=hb1.frozen (k*4)
   have f1:=hb1.frozen (k*4+1)
   have f2:=hb1.frozen (k*4+2)
   have f3:=hb1.frozen (k*4+3)
   have hsz:=hB.size
   obtain ⟨v0,y0⟩:=hb1.has (i:=k*4) (by rw [hcs.out];omega)
   obtain ⟨v1,y1⟩:=hb1.has (i:=k*4+1) (by rw [hcs.out];omega)
   obtain ⟨v2,y2⟩:=hb1.has (i:=k*4+2) (by rw [hcs.out];omega)
   obtain ⟨v3,y3⟩:=hb1.has (i:=k*4+3) (by rw [hcs.out];omega)
   go_wp2
   go_roundw
   case rel=>
    refine ⟨k+1,_,by omega,by go_num,(((hb1.set _ _).set _ _).set _ _).set _ _,by show _=_;simp [hcs.out],?_,?_⟩
    ·have hc2:=(((hc1.grown (gset _ w.heap.size (k*4) (.int .i64 x.id)) (by omega)).grown (gset _ w.heap.size (k*4+1) (.string x.nm)) (by omega)).grown (gset _ w.heap.size (k*4+2) (.bool x.fx)) (by omega)).grown (gset _ w.heap.size (k*4+3) (.slice (some ⟨nb,0,none⟩) pn pn)) (by omega)
     have hQ2:=((((hQ.mono (show w.heap.size+1<=nb by omega)).grown (gset _ w.heap.size (k*4) (.int .i64 x.id)) (by omega)).grown (gset _ w.heap.size (k*4+1) (.string x.nm)) (by omega)).grown (gset _ w.heap.size (k*4+2) (.bool x.fx)) (by omega)).grown (gset _ w.heap.size (k*4+3) (.slice (some ⟨nb,0,none⟩) pn pn)) (by omega)
     intro i q hi hq
     have hcs':=hcs.out
     by_cases hik:i=k
     ·subst hik
      obtain rfl:x=q:=by rw [hp'.out] at hq;exact Option.some.inj hq
      refine ⟨some ⟨nb,0,none⟩,pn,pn,?_,?_,?_,?_,hQ2,eO_ nb pn (by omega)⟩
      all_goals (simp [Array.getElem?_setIfInBounds];omega)
     ·obtain ⟨qa,qn,qc,r0,r1,r2,r3,r4⟩:=hc2 i q (by omega) hq
      refine ⟨qa,qn,qc,?_,?_,?_,?_,r4⟩
      all_goals (rw [Array.getElem?_setIfInBounds_ne (by omega),Array.getElem?_setIfInBounds_ne (by omega),Array.getElem?_setIfInBounds_ne (by omega),Array.getElem?_setIfInBounds_ne (by omega)];assumption)
    ·exact ((((chain hB hB1).setCell (by simp) _).setCell (by simp) _).setCell (by simp) _).setCell (by simp) _
   case measure=>simp [intOf];omega
  ·obtain rfl:k=n:=by omega
   go_wp2
   go_returns
   go_light
   refine ⟨⟨rfl,hlen'.out,fun i x hx=>?_⟩,hB⟩
   have hi:i<k:=by have:=(List.getElem?_eq_some_iff.1 hx).1;rw [hlen'.out] at this;exact this
   obtain ⟨pa,pn,pc,r0,r1,r2,r3,r4,r5⟩:=hcc i x hi hx
   refine ⟨w.heap.size,0,pa,pn,pc,rfl,?_,?_,?_,?_,r4.mono (by omega),r5.mono (by omega),Nat.le_refl _,dM_ hblk (Nat.le_refl _)⟩
   ·rw [Nat.zero_add,hblk.cell];exact r0
   ·rw [Nat.zero_add,hblk.cell];exact r1
   ·rw [Nat.zero_add,hblk.cell];exact r2
   ·rw [Nat.zero_add,hblk.cell];exact r3
end Go.Proofs.YtigldeccfpkdmaaGreatDoor
namespace Go.Proofs.YtigldeccfpkdmaaGreatDoor
open Go.ChangeShapes Go.WideShapes Go.ChangeAt Go.RowKit Go.Deep
set_option maxHeartbeats 20000000
set_option maxRecDepth 100000
theorem cells32:Tryz.prog.cellsOf 159=2:=by kernel_rfl
theorem ob_ {H:Type} {enc:TypeId×Value->H} {w:World} {spare:Nat->Bool} {held:Bool} {a:Option Addr} {n cap:Nat} {d:DataW H} {p:List MemPlace}
  (h:DataW.Trod enc Tryz.prog w 0 spare held 32 (.slice a n cap) d p):n<=maxLen∧∃ l:List Ex,ExsAt w a n l∧∀ e∈l,e.d.size<=maxLen:=by
 obtain ⟨fuel,hf⟩:=h
 rcases open_slice Tryz.underlying32 hf with ⟨hcs,_⟩ | ⟨ad,len,cap',m,n',D,Pl,hcs,_,hl,hm,hmm,_,hel⟩
 ·simp [Value.cells] at hcs
  obtain ⟨rfl,rfl,rfl⟩:=hcs
  exact ⟨Nat.zero_le _,[],⟨rfl,fun i x hx=>by simp at hx⟩,by simp⟩
 ·simp [Value.cells] at hcs
  obtain ⟨rfl,rfl,rfl⟩:=hcs
  have hle:n<=m:=by rw [hmm];split<;>omega
  refine ⟨Nat.le_trans hl hm,?_⟩
  have hone:∀ i,i<n->∃ q:Ex,q.d.size<=maxLen∧∀ j v,q.cs[j]?=some v->w.cell? (ad.add (i*2+j))=some v:=by
   intro i hi
   obtain ⟨cs',h1,h2⟩:=hel i (by omega)
   rw [cells32] at h1
   obtain ⟨_,hlen,hcell⟩:=World.cells?_some h1
   obtain ⟨y0,y1,_,_,_,t0,t1⟩:=trod_struct2 Tryz.underlying159 h2
   obtain ⟨z0,e0,_,_⟩:=DataW.trod_int Tryz.underlying2 t0
   obtain ⟨z1,e1,_,hz⟩:=DataW.trod_string Tryz.underlying9 t1
   match cs',hlen with
   |[x0,x1],_=>
    simp [c2,c9] at e0 e1
    subst e0 e1
    refine ⟨⟨z0,z1⟩,hz,fun j v hv=>?_⟩
    have hj:j<2:=by have:=(List.getElem?_eq_some_iff.1 hv).1;simpa [Ex.cs] using this
    have:=hcell j hj
    rw [Addr.add_add] at this
    rw [this];exact hv
  have hinh:Inhabited Ex:=⟨⟨0,.empty⟩⟩
  obtain ⟨L,hL⟩:=choose_lt (α:=Ex) (p:=fun i q=>q.d.size<=maxLen∧∀ j v,q.cs[j]?=some v->w.cell? (ad.add (i*2+j))=some v) hone
  refine ⟨(List.range n).map L,⟨by simp,fun i x hx=>?_⟩,?_⟩
  ·have hi:i<n:=by have:=(List.getElem?_eq_some_iff.1 hx).1;simpa using this
   simp [hi] at hx
   subst hx
   have h00:=(hL 0 (by omega)).2 0 _ rfl
   obtain ⟨b,o,rfl⟩:=spotless h00 rfl
   exact ⟨b,o,rfl,fun j v hv=>by have:=(hL i hi).2 j v hv;rw [Addr.add_lit] at this;rw [Nat.add_assoc];exact this⟩
  ·intro e he
   obtain ⟨i,hi,rfl⟩:=List.mem_map.1 he
   exact (hL i (by simpa using hi)).1
end Go.Proofs.YtigldeccfpkdmaaGreatDoor
namespace Go.Proofs.YtigldeccfpkdmaaGreatDoor
open Go.ChangeShapes Go.WideShapes Go.ChangeAt Go.RowKit Go.Deep Go.BigFrame
set_option maxHeartbeats 20000000
set_option maxRecDepth 100000
theorem cX_ (a:Option Addr) (n cap:Nat) (l:List Ct) (w:World) (h:CtsAt w a n l) (hn:n<=4194304) :
  Calls Tryz.prog 59 #[.slice a n cap] w fun e w'=>e=.returned (.slice (some ⟨w.heap.size,0,none⟩) n n)∧OwnAt Ct.cs 4 134 w' w.heap.size n l∧Below w.heap.size w w':=by
 have hlen':Hid (l.length=n):=h.len
 have hinfo:(Tryz.prog.info? 134).map (fun i=>(i.zero,i.size,i.bytes))=some (some (.agg #[.int .i64 0,.int .i64 0,.string .empty,.int .i64 0]),4,40):=by kernel_rfl
 obtain ⟨i0,hi,hz0,hz1,hz2⟩:=info_parts hinfo
 have hmk:∀ u:World,(Instr.makeSlice 24 (.int .i64 (n:Int)) (.int .i64 (n:Int))).run Tryz.prog u =
   .ok (.slice (some ⟨u.heap.size,0,none⟩) n n) (u.alloc (.cells (madeCells #[.int .i64 0,.int .i64 0,.string .empty,.int .i64 0] (n*4)) 134)):=fun u=>by
  have hm:=run_make (P:=Tryz.prog) u 24 134 i0 (.agg #[.int .i64 0,.int .i64 0,.string .empty,.int .i64 0]) Tryz.underlying24 hi hz0 .i64 .i64 (n:Int) (n:Int) (by omega) (Int.le_refl _) (by rw [hz2];omega) (by omega)
  simpa [hz1,Value.cells] using hm
 clear hinfo hi hz0 hz1 hz2
 go_enter Tryz.func59,Tryz.ntmps59
 go_wp2_with fail
 go_loopw [4] (fun ix wr=>∃ (k:Nat) (c:Array Value),k<=n∧ix=.int .i64 k∧Blk wr w.heap.size c 134∧Hid (c.size=n*4)∧Hid (∀ i p,i<k->l[i]?=some p->c[i*4]?=some (.int .i64 p.o.a)∧c[i*4+1]?=some (.int .i64 p.o.v)∧c[i*4+2]?=some (.string p.o.f)∧c[i*4+3]?=some (.int .i64 p.n))∧Below w.heap.size w wr) (fun ix _=>n-(intOf ix).toNat)
 case atStart=>exact ⟨0,_,Nat.zero_le _,rfl,Blk.new _ _ _,size_madeCells _ _,fun i p hi=>by omega,(Below.refl _ _).alloc (Nat.le_refl _) _⟩
 case round=>
  obtain ⟨k,c,hk,rfl,hblk,hcs,hcc,hB⟩:=hrel
  by_cases hlt:k<n
  ·obtain ⟨b,o,p,rfl,hp,c0,c1,c2,c3⟩:=az_ (h.below hB) hlt
   have hp':Hid (l[k]?=some p):=hp
   clear hp hmk
   go_wp2_with fail
   refine (gs_ p _).mono ?_
   rintro e w1 ⟨rfl,hB1⟩
   have hb1:=hblk.below hB1
   have f0:=hb1.frozen (k*4)
   have f1:=hb1.frozen (k*4+1)
   have f2:=hb1.frozen (k*4+2)
   have f3:=hb1.frozen (k*4+3)
   have hsz:=hB.size
   obtain ⟨v0,y0⟩:=hb1.has (i:=k*4) (by rw [hcs.out];omega)
   obtain ⟨v1,y1⟩:=hb1.has (i:=k*4+1) (by rw [hcs.out];omega)
   obtain ⟨v2,y2⟩:=hb1.has (i:=k*4+2) (by rw [hcs.out];omega)
   obtain ⟨v3,y3⟩:=hb1.has (i:=k*4+3) (by rw [hcs.out];omega)
   go_wp2
   go_roundw
   case rel=>
    refine ⟨k+1,_,by omega,by go_num,(((hb1.set _ _).set _ _).set _ _).set _ _,by show _=_;simp [hcs.out],?_,?_⟩
    ·intro i q hi hq
     have hcs':=hcs.out
     by_cases hik:i=k
     ·subst hik
      obtain rfl:p=q:=by rw [hp'.out] at hq;exact Option.some.inj hq
      refine ⟨?_,?_,?_,?_⟩
      all_goals (simp [Array.getElem?_setIfInBounds];omega)
     ·obtain ⟨r0,r1,r2,r3⟩:=hcc.out i q (by omega) hq
      refine ⟨?_,?_,?_,?_⟩
      all_goals (rw [Array.getElem?_setIfInBounds_ne (by omega),Array.getElem?_setIfInBounds_ne (by omega),Array.getElem?_setIfInBounds_ne (by omega),Array.getElem?_setIfInBounds_ne (by omega)];assumption)
    ·exact ((((chain hB hB1).setCell (by simp) _).setCell (by simp) _).setCell (by simp) _).setCell (by simp) _
   case measure=>simp [intOf];omega
  ·obtain rfl:k=n:=by omega
   go_wp2
   go_returns
   go_light
   refine ⟨rfl,⟨hlen'.out,c,hblk,Nat.le_of_eq hcs.out.symm,?_⟩,hB⟩
   intro i x hx j v hv
   have hi:i<k:=by have:=(List.getElem?_eq_some_iff.1 hx).1;rw [hlen'.out] at this;exact this
   obtain ⟨r0,r1,r2,r3⟩:=hcc.out i x hi hx
   match j,hv with
   |0,hv=>obtain rfl:=Option.some.inj hv;exact r0
   |1,hv=>obtain rfl:=Option.some.inj hv;exact r1
   |2,hv=>obtain rfl:=Option.some.inj hv;exact r2
   |3,hv=>obtain rfl:=Option.some.inj hv;exact r3
   |j+4,hv=>simp [Ct.cs] at hv
theorem cellsC:Tryz.prog.cellsOf 167=4:=by kernel_rfl
theorem cellsO:Tryz.prog.cellsOf 165=3:=by kernel_rfl
theorem kf_ {H:Type} {enc:TypeId×Value->H} {w:World} {spare:Nat->Bool} {held:Bool} {a:Option Addr} {n cap:Nat} {d:DataW H} {p:List MemPlace}
  (h:DataW.Trod enc Tryz.prog w 0 spare held 34 (.slice a n cap) d p):n<=maxLen∧∃ l:List Ct,CtsAt w a n l∧∀ e∈l,e.o.f.size<=maxLen:=by
 obtain ⟨fuel,hf⟩:=h
 rcases open_slice Tryz.underlying34 hf with ⟨hcs,_⟩ | ⟨ad,len,cap',m,n',D,Pl,hcs,_,hl,hm,hmm,_,hel⟩
 ·simp [Value.cells] at hcs
  obtain ⟨rfl,rfl,rfl⟩:=hcs
  exact ⟨Nat.zero_le _,[],⟨rfl,fun i x hx=>by simp at hx⟩,by simp⟩
 ·simp [Value.cells] at hcs
  obtain ⟨rfl,rfl,rfl⟩:=hcs
  have hle:n<=m:=by rw [hmm];split<;>omega
  refine ⟨Nat.le_trans hl hm,?_⟩
  have hone:∀ i,i<n->∃ q:Ct,q.o.f.size<=maxLen∧∀ j v,q.cs[j]?=some v->w.cell? (ad.add (i*4+j))=some v:=by
   intro i hi
   obtain ⟨cs',h1,h2⟩:=hel i (by omega)
   rw [cellsC] at h1
   obtain ⟨_,hlen,hcell⟩:=World.cells?_some h1
   obtain ⟨y0,y1,_,_,_,t0,t1⟩:=trod_struct2 Tryz.underlying167 h2
   obtain ⟨z0,e0,_,_⟩:=DataW.trod_int Tryz.underlying2 t1
   obtain ⟨u0,u1,u2,_,_,_,s0,s1,s2⟩:=trod_struct3 Tryz.underlying165 t0
   obtain ⟨z1,e1,_,_⟩:=DataW.trod_int Tryz.underlying2 s0
   obtain ⟨z2,e2,_,_⟩:=DataW.trod_int Tryz.underlying2 s1
   obtain ⟨z3,e3,_,hz⟩:=DataW.trod_string Tryz.underlying9 s2
   match cs',hlen with
   |[x0,x1,x2,x3],_=>
    simp [c2,c9,cellsO] at e0 e1 e2 e3
    subst e0 e1 e2 e3
    refine ⟨⟨⟨z1,z2,z3⟩,z0⟩,hz,fun j v hv=>?_⟩
    have hj:j<4:=by have:=(List.getElem?_eq_some_iff.1 hv).1;simpa [Ct.cs] using this
    have:=hcell j hj
    rw [Addr.add_add] at this
    rw [this];exact hv
  have hinh:Inhabited Ct:=⟨⟨⟨0,0,.empty⟩,0⟩⟩
  obtain ⟨L,hL⟩:=choose_lt (α:=Ct) (p:=fun i q=>q.o.f.size<=maxLen∧∀ j v,q.cs[j]?=some v->w.cell? (ad.add (i*4+j))=some v) hone
  refine ⟨(List.range n).map L,⟨by simp,fun i x hx=>?_⟩,?_⟩
  ·have hi:i<n:=by have:=(List.getElem?_eq_some_iff.1 hx).1;simpa using this
   simp [hi] at hx
   subst hx
   have h00:=(hL 0 (by omega)).2 0 _ rfl
   obtain ⟨b,o,rfl⟩:=spotless h00 rfl
   exact ⟨b,o,rfl,fun j v hv=>by have:=(hL i hi).2 j v hv;rw [Addr.add_lit] at this;rw [Nat.add_assoc];exact this⟩
  ·intro e he
   obtain ⟨i,hi,rfl⟩:=List.mem_map.1 he
   exact (hL i (by simpa using hi)).1
end Go.Proofs.YtigldeccfpkdmaaGreatDoor
namespace Go.Proofs.YtigldeccfpkdmaaGreatDoor
open Go.RowKit Go.BigFrame
set_option maxHeartbeats 20000000
set_option maxRecDepth 100000
/-- Lists and strings as long as memory has them, and within the budget. -/
def BigP (p:Po):Prop:=p.ex.length<=9223372036854775807∧Strs p.ex∧p.vs.length<=9223372036854775807∧BigV p.vs∧p.rf.length<=9223372036854775807∧StrC p.rf∧p.lt.length<=9223372036854775807∧StrC p.lt
theorem ix_ (B:Nat) (v:Value) (p:Po) (L:Int) (w:World) (h:PoolAt B w v p) (hb:BigP p) (hL0:0<=L) (hL:L<=1048576) :
  Calls Tryz.prog 14 #[v,.int .i64 L] w fun e w'=>(∃ r:Int,e=.returned (.int .i64 r)∧(r=-1∨(0<=r∧r<=1048576∧SmallP p)))∧Below w.heap.size w w':=by
 obtain ⟨ea,en,ec,va,vn,vc,ra,rn,rc,la,ln,lc,rfl,⟨h1,k1⟩,⟨h2,k2⟩,⟨h3,k3⟩,h4,k4⟩:=h
 obtain ⟨z1,z2,z3,z4,z5,z6,z7,z8⟩:=hb
 rw [h1.len] at z1
 rw [h2.len] at z3
 rw [h3.len] at z5
 rw [h4.len] at z7
 unfold SmallP
 rw [h1.len,h2.len,h3.len,h4.len]
 obtain ⟨size,next,ex,vs,rf,lt⟩:=p
 simp only at *
 go_enter Tryz.func14,Tryz.ntmps14
 go_wp2_with fail
 refine (gq_ ea en ec ex L _ (h1.below (by go_grown)) z2 z1 hL0 hL).mono ?_
 rintro e w1 ⟨⟨r,rfl,hr⟩,hB1⟩
 have C:Blk w1 w.heap.size _ _:=(Blk.new w _ _).below hB1
 replace hB1:Below w.heap.size w w1:=chain (by go_grown) hB1
 rcases hr with rfl | ⟨r0,r1,r2⟩
 ·go_wp2
  go_returns
  exact ⟨⟨-1,rfl,.inl rfl⟩,hB1⟩
 ·have c3:=C.cell 3
  simp only [lgA,lgB,lgC] at c3
  go_wp2_with fail
  refine (gt_ B va vn vc vs r _ (h2.below hB1) z4 z3 (by omega) (by omega)).mono ?_
  rintro e w2 ⟨⟨q,rfl,hq⟩,hB2⟩
  replace C:=C.below hB2
  replace hB2:=chain hB1 hB2
  clear c3
  rcases hq with rfl | ⟨q0,q1,q2⟩
  ·go_wp2
   go_returns
   exact ⟨⟨-1,rfl,.inl rfl⟩,hB2⟩
  ·have c4:=C.cell 4
   simp only [lgA,lgB,lgC] at c4
   go_wp2_with fail
   refine (cW_ ra rn rc rf q _ (h3.below hB2) z6 z5 (by omega) (by omega)).mono ?_
   rintro e w3 ⟨⟨s,rfl,hs⟩,hB3⟩
   replace C:=C.below hB3
   replace hB3:=chain hB2 hB3
   clear c4
   rcases hs with rfl | ⟨s0,s1,s2⟩
   ·go_wp2
    go_returns
    exact ⟨⟨-1,rfl,.inl rfl⟩,hB3⟩
   ·have c5:=C.cell 5
    simp only [lgA,lgB,lgC] at c5
    go_wp2_with fail
    refine (cW_ la ln lc lt s _ (h4.below hB3) z8 z7 (by omega) (by omega)).mono ?_
    rintro e w4 ⟨⟨t,rfl,ht⟩,hB4⟩
    replace hB4:=chain hB3 hB4
    clear c5
    rcases ht with rfl | ⟨t0,t1,t2⟩
    ·go_wp2
     go_returns
     exact ⟨⟨-1,rfl,.inl rfl⟩,hB4⟩
    ·go_wp2
     go_returns
     exact ⟨⟨t,rfl,.inr ⟨t0,t1,r2,q2,s2,t2⟩⟩,hB4⟩
end Go.Proofs.YtigldeccfpkdmaaGreatDoor
