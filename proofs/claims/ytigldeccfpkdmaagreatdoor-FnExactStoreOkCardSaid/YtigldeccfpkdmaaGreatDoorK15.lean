/- The laws' copies and comparisons of pools. PoolOk of the model. -/
import Derived.Test.YtigldeccfpkdmaaGreatDoorProg
import Derived.Test.YtigldeccfpkdmaaGreatDoorK14
namespace Go.Proofs.YtigldeccfpkdmaaGreatDoor
open Go.RowKit Go.BigFrame
set_option maxHeartbeats 20000000
set_option maxRecDepth 100000
theorem pB_ {w w1:World} {c0 c1:Array Value} {t0 t1:TypeId} (hb:Below ((w.alloc (.cells c0 t0)).alloc (.cells c1 t1)).heap.size ((w.alloc (.cells c0 t0)).alloc (.cells c1 t1)) w1) :
  Blk w1 w.heap.size c0 t0∧Blk w1 (w.heap.size+1) c1 t1∧Below w.heap.size w w1:=by
 refine ⟨?_,?_,chain (by go_grown) hb⟩
 ·exact ((Blk.new w c0 t0).alloc (.cells c1 t1)).below hb
 ·have:=(Blk.new (w.alloc (.cells c0 t0)) c1 t1).below hb
  simpa using this
theorem SmallP.dims {p:Po} (h:SmallP p):p.ex.length<=1048576∧p.vs.length<=1048576∧(∀ v∈p.vs,v.its.length<=1048576∧∀ x∈v.its,x.ps.length<=4194304)∧p.rf.length<=1048576∧p.lt.length<=1048576:=by
 obtain ⟨h1,h2,h3,h4⟩:=h
 exact ⟨h1.1,h2.1,fun v hv=>⟨(h2.2 v hv).2.1,fun x hx=>by have:=((h2.2 v hv).2.2 x hx).2;omega⟩,h3.1,h4.1⟩
theorem ci_ (B B':Nat) (v v':Value) (p:Po) (w:World) (h:PoolAt B w v p) (h':PoolAt B' w v' p) (hs:SmallP p) :
  Calls Tryz.prog 11 #[v,v'] w fun e w'=>e=.returned (.bool true)∧Below w.heap.size w w':=by
 obtain ⟨ea,en,ec,va,vn,vc,ra,rn,rc,la,ln,lc,rfl,⟨h1,k1⟩,⟨h2,k2⟩,⟨h3,k3⟩,h4,k4⟩:=h
 obtain ⟨ea',en',ec',va',vn',vc',ra',rn',rc',la',ln',lc',rfl,⟨h1',k1'⟩,⟨h2',k2'⟩,⟨h3',k3'⟩,h4',k4'⟩:=h'
 obtain ⟨d1,d2,d3,d4,d5⟩:=hs.dims
 clear hs k1 k2 k3 k4 k1' k2' k3' k4'
 have n1:=h1.len
 have n2:=h2.len
 have n3:=h3.len
 have n4:=h4.len
 have n1':=h1'.len
 have n2':=h2'.len
 have n3':=h3'.len
 have n4':=h4'.len
 obtain ⟨size,next,ex,vs,rf,lt⟩:=p
 simp only at *
 have q1:(size != size)=false:=by simp
 have q2:(next != next)=false:=by simp
 go_enter Tryz.func11,Tryz.ntmps11
 go_wp2_with fail
 refine (fF_ ea en ec ex ea' en' ec' ex _ (h1.below (by go_grown)) (h1'.below (by go_grown)) (by omega) (by omega)).mono ?_
 rintro e w1 ⟨rfl,hB1⟩
 rw [ko_]
 obtain ⟨C,D,hB1'⟩:=pB_ hB1
 clear hB1
 have hB1:=hB1'
 clear hB1'
 have c3:=C.cell 3
 have d3':=D.cell 3
 have c4:=C.cell 4
 have d4':=D.cell 4
 have c5:=C.cell 5
 have d5':=D.cell 5
 simp only [lgA,lgB,lgC] at c3 d3' c4 d4' c5 d5'
 clear C D
 go_wp2_with fail
 refine (fS_ B B' va vn vc va' vn' vc' vs _ (h2.below hB1) (h2'.below hB1) (by omega) (fun v hv=>⟨by have:=(d3 v hv).1;omega,(d3 v hv).2⟩)).mono ?_
 rintro e w2 ⟨rfl,hB2⟩
 replace c4:=bcell hB2 c4
 replace d4':=bcell hB2 d4'
 replace c5:=bcell hB2 c5
 replace d5':=bcell hB2 d5'
 replace hB2:=chain hB1 hB2
 clear c3 d3' hB1
 go_wp2_with fail
 refine (cU_ ra rn rc rf ra' rn' rc' rf _ (h3.below hB2) (h3'.below hB2) (by omega) (by omega)).mono ?_
 rintro e w3 ⟨rfl,hB3⟩
 rw [fK_]
 replace c5:=bcell hB3 c5
 replace d5':=bcell hB3 d5'
 replace hB3:=chain hB2 hB3
 clear c4 d4' hB2
 go_wp2_with fail
 refine (cU_ la ln lc lt la' ln' lc' lt _ (h4.below hB3) (h4'.below hB3) (by omega) (by omega)).mono ?_
 rintro e w4 ⟨rfl,hB4⟩
 rw [fK_]
 replace hB4:=chain hB3 hB4
 go_wp2
 go_returns
 exact ⟨rfl,hB4⟩
/-- Lists and strings of a pool that is asked. -/
def DimP (p:Po):Prop:=p.ex.length<=4194304∧Strs p.ex∧p.vs.length<=4194304∧StrV p.vs∧p.rf.length<=4194304∧StrC p.rf∧p.lt.length<=4194304∧StrC p.lt
theorem mq_ {l:List Vo} {i:Nat} (h:i<=l.length):(l.take i).getLast?=if i=0 then none else l[i-1]?:=by
 rw [List.getLast?_eq_getElem?,List.length_take,Nat.min_eq_left h]
 split
 ·subst_vars;simp
 ·rw [List.getElem?_take_of_lt (by omega)]
theorem bJ_ (B:Nat) (hB0:0<B) (v:Value) (p:Po) (w:World) (h:PoolAt B w v p) (hd:DimP p) :
  Calls Tryz.prog 55 #[v] w fun e w'=>e=.returned (.bool (poolB p))∧Below w.heap.size w w':=by
 obtain ⟨ea,en,ec,va,vn,vc,ra,rn,rc,la,ln,lc,rfl,⟨h1,k1⟩,⟨h2,k2⟩,⟨h3,k3⟩,h4,k4⟩:=h
 obtain ⟨z1,z2,z3,z4,z5,z6,z7,z8⟩:=hd
 rw [h1.len] at z1
 rw [h2.len] at z3
 rw [h3.len] at z5
 rw [h4.len] at z7
 have n2:Hid (p.vs.length=vn):=h2.len
 have n1:Hid (p.ex.length=en):=h1.len
 obtain ⟨size,next,ex,vs,rf,lt⟩:=p
 simp only at h1 h2 h3 h4 z2 z4 z6 z8 n1 n2
 have hR:Hid (poolB ⟨size,next,ex,vs,rf,lt⟩=(spaceOkB size ex&&decide (1<=next)&&decide (next<=1000000000)&&(decide (vs.length<=6)&&vgo next ex 0 vs)&&namesB vs&&(match flushedO rf lt with | none=>false | some s=>eqCts s (walkL vs))&&addrB ex (rf++lt))):=rfl
 generalize poolB ⟨size,next,ex,vs,rf,lt⟩=R at *
 cases hok:spaceOkB size ex
 ·rw [hok] at hR
  simp only [Bool.false_and] at hR
  go_enter Tryz.func55,Tryz.ntmps55
  go_wp2_with fail
  refine (bQ_ size ea en ec ex _ (h1.below (by go_grown)) z2 z1).mono ?_
  rintro e w1 ⟨rfl,rfl⟩
  rw [hok]
  go_wp2
  go_returns
  exact ⟨by rw [hR.out];rfl,by go_grown⟩
 ·rw [hok,Bool.true_and] at hR
  cases hnx:(decide (1<=next)&&decide (next<=1000000000))
  ·rw [hnx] at hR
   simp only [Bool.false_and] at hR
   go_enter Tryz.func55,Tryz.ntmps55
   go_wp2_with fail
   refine (bQ_ size ea en ec ex _ (h1.below (by go_grown)) z2 z1).mono ?_
   rintro e w1 ⟨rfl,rfl⟩
   rw [hok]
   go_wp2_with fail
   refine (ao_ next 1 1000000000 _).mono ?_
   rintro e w1 ⟨rfl,rfl⟩
   rw [hnx]
   go_wp2
   go_returns
   exact ⟨by rw [hR.out];rfl,by go_grown⟩
  ·rw [hnx,Bool.true_and] at hR
   have hnx':1<=next∧next<=1000000000:=by simpa using hnx
   by_cases h6:vn<=6
   ·rw [n2.out,decide_eq_true h6,Bool.true_and,<-ji_ hnx'.2] at hR
    have hs4:=mp_ hok
    go_enter Tryz.func55,Tryz.ntmps55
    go_wp2_with fail
    refine (bQ_ size ea en ec ex _ (h1.below (by go_grown)) z2 z1).mono ?_
    rintro e w1 ⟨rfl,hw1⟩
    rw [hok]
    have C:Blk w1 w.heap.size #[.int .i64 size,.int .i64 next,.slice ea en ec,.slice va vn vc,.slice ra rn rc,.slice la ln lc] 26:=by rw [hw1];exact Blk.new w _ _
    have hB1:Below w.heap.size w w1:=by rw [hw1];go_grown
    clear hw1
    have c1:=C.cell 1
    have c3:=C.cell 3
    simp only [lgA,lgB,lgC] at c1 c3
    go_wp2_with fail
    refine (ao_ next 1 1000000000 _).mono ?_
    rintro e w2 ⟨rfl,rfl⟩
    rw [hnx]
    go_wp2_with fail
    generalize hM:(match flushedO rf lt with | none=>false | some s=>eqCts s (walkL vs))=M at *
    generalize hAD:addrB ex (rf++lt)=AD at *
    replace hM:Hid ((match flushedO rf lt with | none=>false | some s=>eqCts s (walkL vs))=M):=hM
    replace hAD:Hid (addrB ex (rf++lt)=AD):=hAD
    have hS:Hid (sgoV next ex [] vs=sgoV next ex (vs.take 0) (vs.drop 0)):=rfl
    have hS0:Hid (sgoV next ex [] vs=(vgo next ex 0 vs&&namesB vs)):=ji_ hnx'.2
    generalize sgoV next ex [] vs=S at *
    go_loopw [3] (fun ix wr=>∃ (i:Nat),i<=vn∧ix=.int .i64 i∧Hid (S=sgoV next ex (vs.take i) (vs.drop i))∧Blk wr w.heap.size #[.int .i64 size,.int .i64 next,.slice ea en ec,.slice va vn vc,.slice ra rn rc,.slice la ln lc] 26∧Below w.heap.size w wr) (fun ix _=>vn-(intOf ix).toNat)
    case atStart=>exact ⟨0,Nat.zero_le _,rfl,hS,C,hB1⟩
    case round=>
     clear c1 c3 C hB1 hS
     obtain ⟨i,hi,rfl,hI,C',hB⟩:=hrel
     have d1:=C'.cell 1
     have d2:=C'.cell 2
     have d3:=C'.cell 3
     simp only [lgA,lgB,lgC] at d1 d2 d3
     by_cases hlt:i<vn
     ·obtain ⟨b,o,x,qa,qn,qc,rfl,hx,e0,e1,e2,e3,hP,_,_⟩:=cg_ (h2.below hB) hlt
      have hst:Hid (S=(idB next (if i=0 then none else vs[i-1]?) x&&(nameB x.nm&&itemsB x.its ex)&&!((vs.take i).any (fun u=>sameN u x))&&sgoV next ex (vs.take (i+1)) (vs.drop (i+1)))):=by
       show _=_
       rw [hI.out,aj_ hx,sgoV,mq_ (by rw [n2.out];omega),aO_ hx]
      obtain ⟨m1,m2,m3⟩:=z4 x (List.mem_of_getElem? hx)
      rw [hP.len] at m2
      have hvol:=fun (u:World) (hu:Below wr.heap.size wr u)=>ky_ B x qa qn qc ea en ec ex u (hP.below hu) ((h1.below hB).below hu) z2 z1 hs4 m1 m2 m3
      have hk1:(i:Int)<vn:=by omega
      have hk2:(0:Int)<=i:=by omega
      have hprev:0<i->∃ y,vs[i-1]?=some y∧wr.cell? ⟨b,o+(i-1)*4,none⟩=some (.int .i64 y.id):=fun h0=>by
       obtain ⟨b',o',y,_,_,_,hbo,hy,f0,_⟩:=cg_ (h2.below hB) (show i-1<vn by omega)
       obtain ⟨rfl,rfl⟩:b=b'∧o=o':=by simpa using hbo
       exact ⟨y,hy,f0⟩
      clear hx hI
      have hW0:Below wr.heap.size wr (wr.alloc (.cells #[.int .i64 x.id,.string x.nm,.bool x.fx,.slice qa qn qc] 128)):=by go_grown
      have X:=Blk.new wr #[.int .i64 x.id,.string x.nm,.bool x.fx,.slice qa qn qc] 128
      have X0:(wr.alloc (.cells #[.int .i64 x.id,.string x.nm,.bool x.fx,.slice qa qn qc] 128)).cell? ⟨wr.heap.size,0,none⟩=some (.int .i64 x.id):=X.cell 0
      have X1:(wr.alloc (.cells #[.int .i64 x.id,.string x.nm,.bool x.fx,.slice qa qn qc] 128)).cell? ⟨wr.heap.size,1,none⟩=some (.string x.nm):=X.cell 1
      have X2:(wr.alloc (.cells #[.int .i64 x.id,.string x.nm,.bool x.fx,.slice qa qn qc] 128)).cell? ⟨wr.heap.size,2,none⟩=some (.bool x.fx):=X.cell 2
      have X3:(wr.alloc (.cells #[.int .i64 x.id,.string x.nm,.bool x.fx,.slice qa qn qc] 128)).cell? ⟨wr.heap.size,3,none⟩=some (.slice qa qn qc):=X.cell 3
      have g0:=gcell X0
      have g1:=gcell X1
      have g2:=gcell X2
      have g3:=gcell X3
      have g5:=gcell (bcell hW0 d1)
      have g6:=gcell (bcell hW0 d2)
      have g7:=gcell (bcell hW0 d3)
      have hne:=aq_ (wr.alloc (.cells #[.int .i64 x.id,.string x.nm,.bool x.fx,.slice qa qn qc] 128))
      cases hid1:(decide (1<=x.id)&&decide (x.id<=1000000000))
      ·have hf:idB next (if i=0 then none else vs[i-1]?) x=false:=by unfold idB;rw [hid1];simp
       rw [hf] at hst
       simp only [Bool.false_and] at hst
       go_wp2_with fail
       refine aa_ (by kernel_rfl) (by kernel_rfl) ?_
       repeat (go_big_quiet_step (first | (go_at_call 54;have qq:=fun u:World=>ao_ x.id 1 1000000000 u;rw [hid1] at qq;exact ah_ (qq _))))
       refine wpQuiet_nil ?_
       intro w2 hx2
       have hB2:=chain hW0 (ae_ hx2)
       have X1':=bcell (ae_ hx2) X1
       have C2:=C'.below hB2
       clear hx2
       go_wp2
       go_returns
       exact ⟨by rw [hR.out,hst.out];rfl,chain hB hB2⟩
      ·by_cases hnb:x.id<next
       ·have hnb':decide (next<=x.id)=false:=decide_eq_false (by omega)
        by_cases h0:0<i
        ·obtain ⟨y,hy,f0⟩:=hprev h0
         have g8:=gcell (bcell hW0 f0)
         have h0':decide ((0:Int)<(i:Int))=true:=decide_eq_true (by omega)
         have h09:((i:Int)-1).toNat=i-1:=by omega
         rw [if_neg (by omega),hy] at hst
         by_cases hyx:y.id<x.id
         ·have hyx':decide (x.id<=y.id)=false:=decide_eq_false (by omega)
          have hf:idB next (some y) x=true:=by unfold idB;rw [hid1];simp [hnb,hyx]
          rw [hf] at hst
          simp only [Bool.true_and] at hst
          cases hvk:(nameB x.nm&&itemsB x.its ex)
          ·rw [hvk] at hst
           simp only [Bool.false_and] at hst
           go_wp2_with fail
           refine aa_ (by kernel_rfl) (by kernel_rfl) ?_
           repeat (go_big_quiet_step (first | (go_at_call 54;have qq:=fun u:World=>ao_ x.id 1 1000000000 u;rw [hid1] at qq;exact ah_ (qq _)) | (go_at_call 116;have qq:=fun (u:World) (hu:Below wr.heap.size wr u)=>hvol u hu;rw [hvk] at qq;exact ag_ (qq _ (chain hW0 (Grw.h _))))))
           refine wpQuiet_nil ?_
           intro w2 hx2
           have hB2:=chain hW0 (ae_ hx2)
           have X1':=bcell (ae_ hx2) X1
           have C2:=C'.below hB2
           clear hx2
           go_wp2
           go_returns
           exact ⟨by rw [hR.out,hst.out];rfl,chain hB hB2⟩
          ·rw [hvk] at hst
           simp only [Bool.true_and] at hst
           go_wp2_with fail
           refine aa_ (by kernel_rfl) (by kernel_rfl) ?_
           repeat (go_big_quiet_step (first | (go_at_call 54;have qq:=fun u:World=>ao_ x.id 1 1000000000 u;rw [hid1] at qq;exact ah_ (qq _)) | (go_at_call 116;have qq:=fun (u:World) (hu:Below wr.heap.size wr u)=>hvol u hu;rw [hvk] at qq;exact ag_ (qq _ (chain hW0 (Grw.h _))))))
           refine wpQuiet_nil ?_
           intro w2 hx2
           have hB2:=chain hW0 (ae_ hx2)
           have X1':=bcell (ae_ hx2) X1
           have C2:=C'.below hB2
           clear hx2
           have hBw:=chain hB hB2
           clear hB2 hW0 g0 g1 g2 g3 g5 g6 g7 hne X X0 X1 X2 X3
           go_wp2_with fail
           go_loopw [5] (fun ix wq=>∃ (k:Nat),k<=i∧ix=.int .i64 k∧Hid ((vs.take i).any (fun u=>sameN u x)=((vs.take i).drop k).any (fun u=>sameN u x))∧Below w2.heap.size w2 wq) (fun ix _=>i-(intOf ix).toNat)
           case atStart=>exact ⟨0,Nat.zero_le _,rfl,rfl,Below.refl _ _⟩
           case round=>
            obtain ⟨k,hk,rfl,hJ,hBq⟩:=hrel
            have C3:=C2.below hBq
            have y3:=C3.cell 3
            simp only [lgA,lgB,lgC] at y3
            have y1:=bcell hBq X1'
            by_cases hlk:k<i
            ·obtain ⟨b',o',u,_,_,_,hbo,hu,_,f1,_,_,_,_,_⟩:=cg_ (h2.below (chain hBw hBq)) (show k<vn by omega)
             obtain ⟨rfl,rfl⟩:b=b'∧o=o':=by simpa using hbo
             have hu':(vs.take i)[k]?=some u:=by rw [List.getElem?_take_of_lt hlk];exact hu
             have hJ2:Hid ((vs.take i).any (fun u=>sameN u x)=(sameN u x||((vs.take i).drop (k+1)).any (fun u=>sameN u x))):=by show _=_;rw [hJ.out,aj_ hu'];rfl
             clear hu hu' hbo hJ
             have hk1':(k:Int)<vn:=by omega
             have hk2':(0:Int)<=k:=by omega
             have hsame:sameN u x=(u.nm.toList==x.nm.toList):=rfl
             cases hsn:(u.nm.toList==x.nm.toList)
             ·rw [hsame,hsn,Bool.false_or] at hJ2
              have hsn':¬ u.nm.toList=x.nm.toList:=by simpa using hsn
              go_wp2_with fail
              go_quiet (fail)
              have hBz:=chain hBq (drewNB _ nq)
              go_wp2
              go_roundw
              case rel=>exact ⟨k+1,by omega,by go_num,hJ2,hBz⟩
              case measure=>simp [intOf];omega
             ·rw [hsame,hsn,Bool.true_or] at hJ2
              have hsn':u.nm.toList=x.nm.toList:=by simpa using hsn
              rw [hJ2.out] at hst
              simp only [Bool.not_true,Bool.false_and] at hst
              go_wp2_with fail
              go_quiet (fail)
              have hBz:=chain hBq (drewNB _ nq)
              go_wp2
              go_returns
              exact ⟨by rw [hR.out,hst.out];rfl,chain hBw hBz⟩
            ·obtain rfl:k=i:=by omega
             have hany:(vs.take k).any (fun u=>sameN u x)=false:=by rw [hJ.out,List.drop_of_length_le (by simp;omega)];rfl
             rw [hany] at hst
             simp only [Bool.not_false,Bool.true_and] at hst
             go_wp2
             go_roundw
             case rel=>exact ⟨k+1,by omega,by go_num,hst,C3,chain hBw hBq⟩
             case measure=>simp [intOf];omega
         ·have hyx':decide (x.id<=y.id)=true:=decide_eq_true (by omega)
          have hf:idB next (some y) x=false:=by unfold idB;simp [hyx]
          rw [hf] at hst
          simp only [Bool.false_and] at hst
          go_wp2_with fail
          refine aa_ (by kernel_rfl) (by kernel_rfl) ?_
          repeat (go_big_quiet_step (first | (go_at_call 54;have qq:=fun u:World=>ao_ x.id 1 1000000000 u;rw [hid1] at qq;exact ah_ (qq _))))
          refine wpQuiet_nil ?_
          intro w2 hx2
          have hB2:=chain hW0 (ae_ hx2)
          have X1':=bcell (ae_ hx2) X1
          have C2:=C'.below hB2
          clear hx2
          go_wp2
          go_returns
          exact ⟨by rw [hR.out,hst.out];rfl,chain hB hB2⟩
        ·have h0':decide ((0:Int)<(i:Int))=false:=decide_eq_false (by omega)
         rw [if_pos (by omega)] at hst
         have hf:idB next none x=true:=by unfold idB;rw [hid1];simp [hnb]
         rw [hf] at hst
         simp only [Bool.true_and] at hst
         cases hvk:(nameB x.nm&&itemsB x.its ex)
         ·rw [hvk] at hst
          simp only [Bool.false_and] at hst
          go_wp2_with fail
          refine aa_ (by kernel_rfl) (by kernel_rfl) ?_
          repeat (go_big_quiet_step (first | (go_at_call 54;have qq:=fun u:World=>ao_ x.id 1 1000000000 u;rw [hid1] at qq;exact ah_ (qq _)) | (go_at_call 116;have qq:=fun (u:World) (hu:Below wr.heap.size wr u)=>hvol u hu;rw [hvk] at qq;exact ag_ (qq _ (chain hW0 (Grw.h _))))))
          refine wpQuiet_nil ?_
          intro w2 hx2
          have hB2:=chain hW0 (ae_ hx2)
          have X1':=bcell (ae_ hx2) X1
          have C2:=C'.below hB2
          clear hx2
          go_wp2
          go_returns
          exact ⟨by rw [hR.out,hst.out];rfl,chain hB hB2⟩
         ·rw [hvk] at hst
          simp only [Bool.true_and] at hst
          go_wp2_with fail
          refine aa_ (by kernel_rfl) (by kernel_rfl) ?_
          repeat (go_big_quiet_step (first | (go_at_call 54;have qq:=fun u:World=>ao_ x.id 1 1000000000 u;rw [hid1] at qq;exact ah_ (qq _)) | (go_at_call 116;have qq:=fun (u:World) (hu:Below wr.heap.size wr u)=>hvol u hu;rw [hvk] at qq;exact ag_ (qq _ (chain hW0 (Grw.h _))))))
          refine wpQuiet_nil ?_
          intro w2 hx2
          have hB2:=chain hW0 (ae_ hx2)
          have X1':=bcell (ae_ hx2) X1
          have C2:=C'.below hB2
          clear hx2
          have hBw:=chain hB hB2
          clear hB2 hW0 g0 g1 g2 g3 g5 g6 g7 hne X X0 X1 X2 X3
          go_wp2_with fail
          go_loopw [5] (fun ix wq=>∃ (k:Nat),k<=i∧ix=.int .i64 k∧Hid ((vs.take i).any (fun u=>sameN u x)=((vs.take i).drop k).any (fun u=>sameN u x))∧Below w2.heap.size w2 wq) (fun ix _=>i-(intOf ix).toNat)
          case atStart=>exact ⟨0,Nat.zero_le _,rfl,rfl,Below.refl _ _⟩
          case round=>
           obtain ⟨k,hk,rfl,hJ,hBq⟩:=hrel
           have C3:=C2.below hBq
           have y3:=C3.cell 3
           simp only [lgA,lgB,lgC] at y3
           have y1:=bcell hBq X1'
           by_cases hlk:k<i
           ·exact absurd hlk (by omega)
           ·obtain rfl:k=i:=by omega
            have hany:(vs.take k).any (fun u=>sameN u x)=false:=by rw [hJ.out,List.drop_of_length_le (by simp;omega)];rfl
            rw [hany] at hst
            simp only [Bool.not_false,Bool.true_and] at hst
            go_wp2
            go_roundw
            case rel=>exact ⟨k+1,by omega,by go_num,hst,C3,chain hBw hBq⟩
            case measure=>simp [intOf];omega
       ·have hnb':decide (next<=x.id)=true:=decide_eq_true (by omega)
        have hf:idB next (if i=0 then none else vs[i-1]?) x=false:=by unfold idB;simp [hnb]
        rw [hf] at hst
        simp only [Bool.false_and] at hst
        go_wp2_with fail
        refine aa_ (by kernel_rfl) (by kernel_rfl) ?_
        repeat (go_big_quiet_step (first | (go_at_call 54;have qq:=fun u:World=>ao_ x.id 1 1000000000 u;rw [hid1] at qq;exact ah_ (qq _))))
        refine wpQuiet_nil ?_
        intro w2 hx2
        have hB2:=chain hW0 (ae_ hx2)
        have X1':=bcell (ae_ hx2) X1
        have C2:=C'.below hB2
        clear hx2
        go_wp2
        go_returns
        exact ⟨by rw [hR.out,hst.out];rfl,chain hB hB2⟩
     ·obtain rfl:i=vn:=by omega
      have d4:=C'.cell 4
      have d5:=C'.cell 5
      simp only [lgA,lgB,lgC] at d4 d5
      have hSt:S=true:=by rw [hI.out,List.drop_of_length_le (Nat.le_of_eq n2.out)];rfl
      have hvg:vgo next ex 0 vs=true:=by have:=hS0.out;rw [hSt] at this;simp at this;exact this.1
      have hty:=lr_ (by rw [n2.out];omega) hvg
      rw [hSt,Bool.true_and] at hR
      go_wp2_with fail
      refine (hR_ ra rn rc rf la ln lc lt _ (h3.below hB) (k3.1.2.2 hB0).2 (k3.1.2.2 hB0).1 (h4.below hB) z6 z8 z5 z7).mono ?_
      rintro e wf ⟨hret,hBf⟩
      have C4:=C'.below hBf
      replace hBf:=chain hB hBf
      clear d1 d2 d3 d4 d5 C' hB
      cases hfl:flushedO rf lt with
      |none=>
       rw [hfl] at hret hM
       replace hret:e=.returned (.tuple #[.slice none 0 0,.bool false]):=hret
       subst hret
       have hMf:M=false:=hM.out.symm
       rw [hMf] at hR
       clear hfl
       go_wp2
       go_returns
       exact ⟨by rw [hR.out];rfl,hBf⟩
      |some sm=>
       rw [hfl] at hret hM
       replace hM:Hid (eqCts sm (walkL vs)=M):=hM
       obtain ⟨a3,n3,cap3,rfl,R3⟩:=hret
       have hn3:n3<=200:=by
        have hl:=R3.sl.len
        unfold flushedO at hfl
        split at hfl
        ·split at hfl
         ·rename_i hh;obtain rfl:=Option.some.inj hfl;have:=(b4_ hh).1;omega
         ·cases hfl
        ·cases hfl
       clear hfl
       have d3:=C4.cell 3
       simp only [lgA,lgB,lgC] at d3
       go_wp2_with fail
       refine (gy_ B va i vc vs _ (h2.below hBf) hty).mono ?_
       rintro e wg ⟨⟨a4,n4,cap4,rfl,hn4,R4⟩,hBg⟩
       replace R3:=R3.below hBg
       replace C4:=C4.below hBg
       replace hBg:=chain hBf hBg
       clear d3 hBf
       go_wp2_with fail
       refine (jk_ a3 n3 cap3 sm a4 n4 cap4 (walkL vs) _ R3.sl R4.sl (by omega) (by omega)).mono ?_
       rintro e wh ⟨rfl,hBh⟩
       rw [hM.out]
       replace C4:=C4.below hBh
       replace hBh:=chain hBg hBh
       clear R3 R4 hBg hM
       cases M
       ·go_wp2
        go_returns
        exact ⟨by rw [hR.out];rfl,hBh⟩
       ·rw [Bool.true_and] at hR
        go_wp2_with fail
        have hAE:Hid (AD=((ex.drop 0).all (fun x=>(rf++lt).any (fun c=>c.o.a==x.a))&&(rf++lt).all (fun c=>ex.any (fun x=>x.a==c.o.a)))):=hAD.out.symm
        clear hAD
        generalize hAL:(rf++lt).all (fun c=>ex.any (fun x=>x.a==c.o.a))=AL at *
        replace hAL:Hid ((rf++lt).all (fun c=>ex.any (fun x=>x.a==c.o.a))=AL):=hAL
        go_loopw [8] (fun ix wr=>∃ (k:Nat),k<=en∧ix=.int .i64 k∧Hid (AD=((ex.drop k).all (fun x=>(rf++lt).any (fun c=>c.o.a==x.a))&&AL))∧Blk wr w.heap.size #[.int .i64 size,.int .i64 next,.slice ea en ec,.slice va i vc,.slice ra rn rc,.slice la ln lc] 26∧Below w.heap.size w wr) (fun ix _=>en-(intOf ix).toNat)
        case atStart=>exact ⟨0,Nat.zero_le _,rfl,hAE,C4,hBh⟩
        case round=>
         clear C4 hBh hAE
         obtain ⟨k,hk,rfl,hI5,C5,hB5⟩:=hrel
         have d0:=C5.cell 0
         have d1:=C5.cell 1
         have d2:=C5.cell 2
         have d3:=C5.cell 3
         have d4:=C5.cell 4
         have d5:=C5.cell 5
         simp only [lgA,lgB,lgC] at d0 d1 d2 d3 d4 d5
         by_cases hlt:k<en
         ·obtain ⟨b,o,x,rfl,hx,c0,c1⟩:=bp_ (h1.below hB5) hlt
          have hd:Hid (ex.drop k=x::ex.drop (k+1)):=aj_ hx
          have hk1:(k:Int)<en:=by omega
          have hk2:(0:Int)<=k:=by omega
          clear hx c1
          have hheld:=fun (u:World) (hu:Below wr.heap.size wr u)=>jl_ size next (some ⟨b,o,none⟩) en ec va i vc ra rn rc la ln lc rf lt x.a u ((h3.below hB5).below hu) ((h4.below hB5).below hu) z5 z7
          have g0:=gcell d0
          have g1:=gcell d1
          have g2:=gcell d2
          have g3:=gcell d3
          have g4:=gcell d4
          have g5:=gcell d5
          have gx:=gcell c0
          have hne:=aq_ wr
          cases hany:(rf++lt).any (fun c=>c.o.a==x.a)
          ·have hAf:Hid (AD=false):=by show _=_;rw [hI5.out,hd.out,List.all_cons,hany];rfl
           go_wp2_with fail
           refine aa_ (by kernel_rfl) (by kernel_rfl) ?_
           repeat (go_big_quiet_step (first | (go_at_call 120;have qq:=hheld;rw [hany] at qq;exact ag_ (qq _ (Grw.h _)))))
           refine wpQuiet_nil ?_
           intro w6 hx6
           have hB6:=chain hB5 (ae_ hx6)
           clear hx6 g0 g1 g2 g3 g4 g5 gx hne hany hheld
           go_wp2
           go_returns
           exact ⟨by rw [hR.out,hAf.out];rfl,hB6⟩
          ·have hAf:Hid (AD=((ex.drop (k+1)).all (fun x=>(rf++lt).any (fun c=>c.o.a==x.a))&&AL)):=by show _=_;rw [hI5.out,hd.out,List.all_cons,hany];rfl
           go_wp2_with fail
           refine aa_ (by kernel_rfl) (by kernel_rfl) ?_
           repeat (go_big_quiet_step (first | (go_at_call 120;have qq:=hheld;rw [hany] at qq;exact ag_ (qq _ (Grw.h _)))))
           refine wpQuiet_nil ?_
           intro w6 hx6
           have C6:=C5.below (ae_ hx6)
           have hB6:=chain hB5 (ae_ hx6)
           clear hx6 g0 g1 g2 g3 g4 g5 gx hne hany hheld
           go_wp2
           go_roundw
           case rel=>exact ⟨k+1,by omega,by go_num,hAf,C6,hB6⟩
           case measure=>simp [intOf];omega
         ·obtain rfl:k=en:=by omega
          have hAf:Hid (AD=AL):=by show _=_;rw [hI5.out,List.drop_of_length_le (Nat.le_of_eq n1.out)];rfl
          clear hI5
          obtain ⟨wi,hwi⟩:∃ x,x=wr:=⟨_,rfl⟩
          subst hwi
          have hwl:=C5.lt
          obtain ⟨i0,hj0,hz0,hz1,hz2⟩:=info_parts infoC
          go_wp2_with fail
          go_region_held3 (fun u=>u.cell? ⟨w.heap.size,4,none⟩=some (.slice ra rn rc)∧u.cell? ⟨w.heap.size,5,none⟩=some (.slice la ln lc)) (go_keep) (first
           |(refine aD_ rfl (be_ _ _ 24 rfl wi.heap.size 134 i0 (.agg #[.int .i64 0,.int .i64 0,.string .empty,.int .i64 0]) 40 Tryz.underlying24 hj0 hz0 hz1 hz2 rfl (by decide) a7_ bf_ a11 rn cap11 ([]++rf) rfl R11 la ln lc lt rfl (h4.below (chain hB5 hG11)) (k4.1.2.2 hB0).2 (k4.1.2.2 hB0).1 (rn+ln) rfl (by unfold maxLen;omega) (by omega) hs11 ?_);intro a13 cap13 w13 R13 hg13;have hG13:Below wi.heap.size wi w13:=(Below.grown hG11 hg13 hs11 (aI_ fun ad had=>(R11.block ad had).1));have y14:=bcell hG13 d4;have y15:=bcell hG13 d5)
           |(refine aD_ rfl (be_ _ _ 24 rfl wi.heap.size 134 i0 (.agg #[.int .i64 0,.int .i64 0,.string .empty,.int .i64 0]) 40 Tryz.underlying24 hj0 hz0 hz1 hz2 rfl (by decide) a7_ bf_ _ 0 0 [] rfl (by first | exact a1_ (Blk.new' wi _ _ _ rfl).drew (Nat.le_refl _) | exact a1_ (Blk.new' wi _ _ _ rfl) (Nat.le_refl _)) ra rn rc rf rfl (h3.below (chain hB5 (by go_grown))) (k3.1.2.2 hB0).2 (k3.1.2.2 hB0).1 rn (Nat.zero_add _) (by unfold maxLen;omega) (by omega) (by first | exact Nat.le_succ _ | (simp;omega) | simp) ?_);intro a11 cap11 w11 R11 hg11;have hG11:Below wi.heap.size wi w11:=(Below.grown (by go_grown) hg11 (by first | exact Nat.le_succ _ | (simp;omega) | simp) (aI_ fun ad had=>(by cases had;exact Nat.le_refl _)));have hs11:wi.heap.size<=w11.heap.size:=hG11.size;have y4:=bcell hG11 d4;have y5:=bcell hG11 d5))
          have C13:=C5.below hG13
          have hB13:=chain hB5 hG13
          clear y4 y5 hG11 hs11 R11 hg11 hg13 hG13 d0 d1 d2 d3 d4 d5 C5 hwl
          have L13:CtsAt w13 a13 (rn+ln) (rf++lt):=R13.sl
          have n13:Hid ((rf++lt).length=rn+ln):=L13.len
          clear R13
          have hAL0:Hid (AL=((rf++lt).drop 0).all (fun c=>ex.any (fun x=>x.a==c.o.a))):=hAL.out.symm
          clear hAL
          go_wp2_with fail
          go_loopw [10] (fun ix wq=>∃ (j:Nat),j<=rn+ln∧ix=.int .i64 j∧Hid (AL=((rf++lt).drop j).all (fun c=>ex.any (fun x=>x.a==c.o.a)))∧Below w13.heap.size w13 wq) (fun ix _=>rn+ln-(intOf ix).toNat)
          case atStart=>exact ⟨0,Nat.zero_le _,rfl,hAL0,Below.refl _ _⟩
          case round=>
           clear hAL0
           obtain ⟨j,hj,rfl,hJ,hBq⟩:=hrel
           have C14:=C13.below hBq
           have d2:=C14.cell 2
           simp only [lgA,lgB,lgC] at d2
           have hB14:=chain hB13 hBq
           by_cases hlj:j<rn+ln
           ·obtain ⟨b,o,c,rfl,hc,c0,_,_,_⟩:=az_ (L13.below hBq) hlj
            have hd:Hid ((rf++lt).drop j=c::(rf++lt).drop (j+1)):=aj_ hc
            have hk1:(j:Int)<((rn+ln:Nat):Int):=by omega
            have hk2:(0:Int)<=j:=by omega
            clear hc
            have hat:=fun (u:World) (hu:Below wr.heap.size wr u)=>g5_ ea k ec ex c.o.a u ((h1.below hB14).below hu) z1
            have hdec:=ls_ c.o.a ex 0
            have g2:=gcell d2
            have gx:=gcell c0
            have hne:=aq_ wr
            cases hany:ex.any (fun x=>x.a==c.o.a)
            ·have hAx:Hid (AL=false):=by show _=_;rw [hJ.out,hd.out,List.all_cons,hany];rfl
             rw [hany] at hdec
             replace hdec:decide (atG c.o.a 0 ex<0)=true:=hdec
             go_wp2_with fail
             refine aa_ (by kernel_rfl) (by kernel_rfl) ?_
             repeat (go_big_quiet_step (first | (go_at_call 121;exact ah_ (hat _ (Grw.h _)))))
             refine wpQuiet_nil ?_
             intro w6 hx6
             have hB6:=chain hB14 (ae_ hx6)
             clear hx6 g2 gx hne hany hat
             go_wp2
             go_returns
             exact ⟨by rw [hR.out,hAf.out,hAx.out];rfl,hB6⟩
            ·have hAx:Hid (AL=((rf++lt).drop (j+1)).all (fun c=>ex.any (fun x=>x.a==c.o.a))):=by show _=_;rw [hJ.out,hd.out,List.all_cons,hany];rfl
             rw [hany] at hdec
             replace hdec:decide (atG c.o.a 0 ex<0)=false:=hdec
             go_wp2_with fail
             refine aa_ (by kernel_rfl) (by kernel_rfl) ?_
             repeat (go_big_quiet_step (first | (go_at_call 121;exact ah_ (hat _ (Grw.h _)))))
             refine wpQuiet_nil ?_
             intro w6 hx6
             have hB6:=chain hBq (ae_ hx6)
             clear hx6 g2 gx hne hany hat
             go_wp2
             go_roundw
             case rel=>exact ⟨j+1,by omega,by go_num,hAx,hB6⟩
             case measure=>simp [intOf];omega
           ·obtain rfl:j=rn+ln:=by omega
            go_wp2
            go_returns
            exact ⟨by rw [hR.out,hAf.out,hJ.out,List.drop_of_length_le (Nat.le_of_eq n13.out)];rfl,hB14⟩
   ·rw [n2.out,decide_eq_false h6] at hR
    simp only [Bool.false_and] at hR
    go_enter Tryz.func55,Tryz.ntmps55
    go_wp2_with fail
    refine (bQ_ size ea en ec ex _ (h1.below (by go_grown)) z2 z1).mono ?_
    rintro e w1 ⟨rfl,rfl⟩
    rw [hok]
    go_wp2_with fail
    refine (ao_ next 1 1000000000 _).mono ?_
    rintro e w1 ⟨rfl,rfl⟩
    rw [hnx]
    go_wp2
    go_returns
    exact ⟨by rw [hR.out];rfl,by go_grown⟩
theorem jn_ {p:Po} (h:poolB p=true):p.vs.length<=6∧vgo p.next p.ex 0 p.vs=true∧p.next<=1000000000∧spaceOkB p.size p.ex=true∧(p.vs.map (·.nm.toList)).Nodup:=by
 simp only [poolB,volsB,namesB,Bool.and_eq_true,decide_eq_true_eq] at h
 exact ⟨h.1.1.1.2.1,h.1.1.1.2.2,h.1.1.1.1.2,h.1.1.1.1.1.1,h.1.1.2⟩
end Go.Proofs.YtigldeccfpkdmaaGreatDoor
