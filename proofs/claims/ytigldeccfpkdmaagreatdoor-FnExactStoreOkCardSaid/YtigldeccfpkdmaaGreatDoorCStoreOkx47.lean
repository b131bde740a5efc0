/- The laws' copies and comparisons of pools. Copies of a disk, and a disk of which all is safe, by the model. How the laws' arguments, as they are read, lie in memory: pools. A store's ten cells in a block. Stores: sizes, copies and comparisons by the laws. -/
import Derived.Test.YtigldeccfpkdmaaGreatDoorProg
import Derived.Test.YtigldeccfpkdmaaGreatDoorK14
import Derived.Test.YtigldeccfpkdmaaGreatDoorK15
import Derived.Test.YtigldeccfpkdmaaGreatDoorCStoreOkx46
import Derived.ArgAppend
import Derived.Test.YtigldeccfpkdmaaGreatDoorK04
import Derived.Test.YtigldeccfpkdmaaGreatDoorK00
import Derived.Test.YtigldeccfpkdmaaGreatDoorK03
import Derived.Test.YtigldeccfpkdmaaGreatDoorK02
import Derived.Test.YtigldeccfpkdmaaGreatDoorK22
import Derived.Test.YtigldeccfpkdmaaGreatDoorK23
import Derived.Test.YtigldeccfpkdmaaGreatDoorK24
import Derived.Test.YtigldeccfpkdmaaGreatDoorK25
import Derived.Test.YtigldeccfpkdmaaGreatDoorK26
import Derived.Test.YtigldeccfpkdmaaGreatDoorK27
import Derived.Lib.SliceRun
import Derived.Test.YtigldeccfpkdmaaGreatDoorK28
import Derived.Test.YtigldeccfpkdmaaGreatDoorK29
import Derived.Test.YtigldeccfpkdmaaGreatDoorK30
import Derived.Test.YtigldeccfpkdmaaGreatDoorK31
import Derived.Test.YtigldeccfpkdmaaGreatDoorK11
import Derived.Deep.RegionLaw
import Derived.Laws.AppendOwnNone
import Derived.WalkKit
import Derived.ProofKit
import Derived.OpenShut
import Derived.Handy
import Derived.Deep.Light
import Derived.Deep.RegionHeld3
import Derived.Deep.QuietTactic
import Derived.BigQuiet
import Derived.WalkSmall
import Derived.Laws.Cover1
import Derived.OrdersHeld
import Derived.StillTail
import Derived.Laws.StructEq
import Derived.Lib.AppendZerosOnto
import Derived.Lib.Overlaps
import Derived.Laws.CopyOwn
import Derived.Laws.NewBlocks
import Derived.Lib.SmallJoins
import Derived.Test.YtigldeccfpkdmaaGreatDoorCStoreOkx45
import Derived.Shelf.Strings.OnBuilder
import Derived.Shelf.Small.Strs
import Derived.Test.YtigldeccfpkdmaaGreatDoorK07
import Derived.Test.YtigldeccfpkdmaaGreatDoorK06
import Derived.Test.YtigldeccfpkdmaaGreatDoorK05
import Derived.Maps.AppendAt
import Derived.Test.YtigldeccfpkdmaaGreatDoorK44
import Derived.Test.YtigldeccfpkdmaaGreatDoorK16
import Derived.Test.YtigldeccfpkdmaaGreatDoorK17
import Derived.Test.YtigldeccfpkdmaaGreatDoorK13
import Derived.Test.YtigldeccfpkdmaaGreatDoorK01
import Derived.Test.YtigldeccfpkdmaaGreatDoorK08
import Derived.Test.YtigldeccfpkdmaaGreatDoorK18
import Derived.Test.YtigldeccfpkdmaaGreatDoorK19
import Derived.Test.YtigldeccfpkdmaaGreatDoorK40
import Derived.RangeFuncNested
import Derived.RangeFuncBound
import Derived.RangeFuncCalls
import Derived.RangeFuncLeaves
import Derived.RangeFuncBox
import Derived.Shelf.Abstract
import Derived.Shelf.RegionOpen
import Derived.OwnWalkIn
import Derived.TacticsInMore
import Derived.LoopNIn
import Derived.LoopIn
import Derived.RangeFuncFrom
import Derived.StillTailTactics
import Derived.Maps.RangeWalk
import Derived.Maps.Views
import Derived.WideKeyEntry
import Derived.DeepKeys4
import Derived.Shelf.SlSortCmp.NoneTotal
import Derived.Lib.AppendStr
import Derived.Laws.BytesArg
import Derived.Laws.Strings2
import Derived.Maps.OwnSet
namespace Go.Proofs.YtigldeccfpkdmaaGreatDoor
open Go.RowKit Go.BigFrame
set_option maxHeartbeats 20000000
set_option maxRecDepth 100000
theorem kg_ (B:Nat) (v:Value) (p:Po) (w:World) (h:PoolAt B w v p) (hs:SmallP p) :
  Calls Tryz.prog 16 #[v] w fun e w'=>(∃ v',e=.returned v'∧PoolAt (w.heap.size+1) w' v' p)∧Below w.heap.size w w':=by
 obtain ⟨ea,en,ec,va,vn,vc,ra,rn,rc,la,ln,lc,rfl,⟨h1,k1⟩,⟨h2,k2⟩,⟨h3,k3⟩,h4,k4⟩:=h
 obtain ⟨d1,d2,d3,d4,d5⟩:=hs.dims
 rw [h1.len] at d1
 rw [h2.len] at d2
 rw [h3.len] at d4
 rw [h4.len] at d5
 clear hs k1 k2 k3 k4
 obtain ⟨size,next,ex,vs,rf,lt⟩:=p
 simp only at *
 go_enter Tryz.func16,Tryz.ntmps16
 go_wp2_with fail
 refine (gr_ ea en ec ex _ (h1.below (by go_grown)) (by omega)).mono ?_
 rintro e w1 ⟨rfl,o1,hB1⟩
 obtain ⟨K0,K1,K2,hB2⟩:=oa_ hB1
 have hz1:=hB1.size
 have hl1:=o1.lt
 have S1:OwnAt Ex.cs 2 136 w1 (w.heap.size+1+1+1) en ex:=by simpa [World.size_alloc] using o1
 simp only [World.size_alloc] at hz1 hl1 ⊢
 clear hB1 o1
 have g2:=K2.frozen 2
 have y2:=K2.cell 2
 have x3:=K0.cell 3
 simp only [lgA,lgB,lgC] at y2 x3
 have T0:=K0.other ⟨w.heap.size+1+1,2,none⟩ (.slice (some ⟨w.heap.size+1+1+1,0,none⟩) en en) (by simp only [ne_eq];omega)
 have T1:=K1.other ⟨w.heap.size+1+1,2,none⟩ (.slice (some ⟨w.heap.size+1+1+1,0,none⟩) en en) (by simp only [ne_eq];omega)
 have T2:=K2.set 2 (.slice (some ⟨w.heap.size+1+1+1,0,none⟩) en en)
 have Q1:=S1.grown (gset _ (w.heap.size+1+1) 2 (.slice (some ⟨w.heap.size+1+1+1,0,none⟩) en en)) (by simp only [ne_eq];omega)
 have hBu:Below w.heap.size w (w1.setCell ⟨w.heap.size+1+1,2,none⟩ (.slice (some ⟨w.heap.size+1+1+1,0,none⟩) en en)):=hB2.setCell (by simp;omega) _
 have hzu:w.heap.size+1+1+1<=(w1.setCell ⟨w.heap.size+1+1,2,none⟩ (.slice (some ⟨w.heap.size+1+1+1,0,none⟩) en en)).heap.size:=by simpa using hz1
 clear K0 K1 K2 S1 hB2 hz1
 go_wp2_with fail
 clear g2 y2 x3
 generalize w1.setCell ⟨w.heap.size+1+1,2,none⟩ (.slice (some ⟨w.heap.size+1+1+1,0,none⟩) en en)=u1 at *
 refine (gu_ B va vn vc vs _ (h2.below hBu) d2 d3).mono ?_
 rintro e w2 ⟨⟨rfl,S2⟩,hB2⟩
 replace T0:=T0.below hB2
 replace T1:=T1.below hB2
 replace T2:=T2.below hB2
 replace Q1:=Q1.below hB2
 have hz2:=hB2.size
 replace hB2:=chain hBu hB2
 clear hBu
 have g2:=T2.frozen 3
 have y2:=T2.cell 3
 have x3:=T0.cell 4
 simp only [List.getElem?_toArray,List.getElem?_cons_zero,List.getElem?_cons_succ,List.setIfInBounds_toArray,List.set_cons_succ,List.set_cons_zero] at y2 x3
 have V0:=T0.other ⟨w.heap.size+1+1,3,none⟩ (.slice (some ⟨u1.heap.size,0,none⟩) vn vn) (by simp only [ne_eq];omega)
 have V1:=T1.other ⟨w.heap.size+1+1,3,none⟩ (.slice (some ⟨u1.heap.size,0,none⟩) vn vn) (by simp only [ne_eq];omega)
 have V2:=T2.set 3 (.slice (some ⟨u1.heap.size,0,none⟩) vn vn)
 have R1:=Q1.grown (gset _ (w.heap.size+1+1) 3 (.slice (some ⟨u1.heap.size,0,none⟩) vn vn)) (by simp only [ne_eq];omega)
 have Q2:=S2.grown (gset _ (w.heap.size+1+1) 3 (.slice (some ⟨u1.heap.size,0,none⟩) vn vn)) (by omega)
 have hBu:Below w.heap.size w (w2.setCell ⟨w.heap.size+1+1,3,none⟩ (.slice (some ⟨u1.heap.size,0,none⟩) vn vn)):=hB2.setCell (by simp;omega) _
 have hzu2:u1.heap.size<=(w2.setCell ⟨w.heap.size+1+1,3,none⟩ (.slice (some ⟨u1.heap.size,0,none⟩) vn vn)).heap.size:=by simpa using hz2
 clear T0 T1 T2 Q1 S2 hB2 hz2
 go_wp2_with fail
 clear g2 y2 x3
 generalize w2.setCell ⟨w.heap.size+1+1,3,none⟩ (.slice (some ⟨u1.heap.size,0,none⟩) vn vn)=u2 at *
 refine (cX_ ra rn rc rf _ (h3.below hBu) (by omega)).mono ?_
 rintro e w3 ⟨rfl,o3,hB3⟩
 replace V0:=V0.below hB3
 replace V1:=V1.below hB3
 replace V2:=V2.below hB3
 replace R1:=R1.below hB3
 replace Q2:=Q2.below hB3
 have S3:=o3
 have hz3:=hB3.size
 replace hB3:=chain hBu hB3
 clear hBu o3
 have g2:=V2.frozen 4
 have y2:=V2.cell 4
 have x3:=V0.cell 5
 simp only [List.getElem?_toArray,List.getElem?_cons_zero,List.getElem?_cons_succ,List.setIfInBounds_toArray,List.set_cons_succ,List.set_cons_zero] at y2 x3
 have X0:=V0.other ⟨w.heap.size+1+1,4,none⟩ (.slice (some ⟨u2.heap.size,0,none⟩) rn rn) (by simp only [ne_eq];omega)
 have X1:=V1.other ⟨w.heap.size+1+1,4,none⟩ (.slice (some ⟨u2.heap.size,0,none⟩) rn rn) (by simp only [ne_eq];omega)
 have X2:=V2.set 4 (.slice (some ⟨u2.heap.size,0,none⟩) rn rn)
 have P1:=R1.grown (gset _ (w.heap.size+1+1) 4 (.slice (some ⟨u2.heap.size,0,none⟩) rn rn)) (by simp only [ne_eq];omega)
 have P2:=Q2.grown (gset _ (w.heap.size+1+1) 4 (.slice (some ⟨u2.heap.size,0,none⟩) rn rn)) (by omega)
 have P3:=S3.grown (gset _ (w.heap.size+1+1) 4 (.slice (some ⟨u2.heap.size,0,none⟩) rn rn)) (by simp only [ne_eq];omega)
 have hBu:Below w.heap.size w (w3.setCell ⟨w.heap.size+1+1,4,none⟩ (.slice (some ⟨u2.heap.size,0,none⟩) rn rn)):=hB3.setCell (by simp;omega) _
 have hzu3:u2.heap.size<=(w3.setCell ⟨w.heap.size+1+1,4,none⟩ (.slice (some ⟨u2.heap.size,0,none⟩) rn rn)).heap.size:=by simpa using hz3
 clear V0 V1 V2 R1 Q2 S3 hB3 hz3
 go_wp2_with fail
 clear g2 y2 x3
 generalize w3.setCell ⟨w.heap.size+1+1,4,none⟩ (.slice (some ⟨u2.heap.size,0,none⟩) rn rn)=u3 at *
 refine (cX_ la ln lc lt _ (h4.below hBu) (by omega)).mono ?_
 rintro e w4 ⟨rfl,o4,hB4⟩
 replace X1:=X1.below hB4
 replace X2:=X2.below hB4
 replace P1:=P1.below hB4
 replace P2:=P2.below hB4
 replace P3:=P3.below hB4
 have P4:=o4
 have hz4:=hB4.size
 replace hB4:=chain hBu hB4
 clear hBu o4 X0
 have g2:=X2.frozen 5
 have y0:=X2.cell 0
 have y1:=X2.cell 1
 have y2:=X2.cell 2
 have y3:=X2.cell 3
 have y4:=X2.cell 4
 have y5:=X2.cell 5
 obtain ⟨f0,f1,f2,f3,f4,f5⟩:=fz6 X1
 have z0:=X1.cell 0
 have z1:=X1.cell 1
 have z2:=X1.cell 2
 have z3:=X1.cell 3
 have z4:=X1.cell 4
 have z5:=X1.cell 5
 simp only [List.getElem?_toArray,List.getElem?_cons_zero,List.getElem?_cons_succ,List.setIfInBounds_toArray,List.set_cons_succ,List.set_cons_zero] at y0 y1 y2 y3 y4 y5 z0 z1 z2 z3 z4 z5
 have hgr:∀ (u:World) (i:Nat) (x:Value) (bb:Nat) (hbb:bb=w.heap.size+1∨bb=w.heap.size+1+1),Below w.heap.size w u∧OwnAt Ex.cs 2 136 u (w.heap.size+1+1+1) en ex∧VsAt u1.heap.size u (some ⟨u1.heap.size,0,none⟩) vn vs∧OwnAt Ct.cs 4 134 u u2.heap.size rn rf∧OwnAt Ct.cs 4 134 u u3.heap.size ln lt->
   Below w.heap.size w (u.setCell ⟨bb,i,none⟩ x)∧OwnAt Ex.cs 2 136 (u.setCell ⟨bb,i,none⟩ x) (w.heap.size+1+1+1) en ex∧VsAt u1.heap.size (u.setCell ⟨bb,i,none⟩ x) (some ⟨u1.heap.size,0,none⟩) vn vs∧OwnAt Ct.cs 4 134 (u.setCell ⟨bb,i,none⟩ x) u2.heap.size rn rf∧OwnAt Ct.cs 4 134 (u.setCell ⟨bb,i,none⟩ x) u3.heap.size ln lt:=by
  rintro u i x bb hbb ⟨q0,q1,q2,q3,q4⟩
  refine ⟨q0.setCell (by simp;omega) _,q1.grown (gset _ bb i x) (by simp only [ne_eq];omega),q2.grown (gset _ bb i x) (by omega),q3.grown (gset _ bb i x) (by simp only [ne_eq];omega),q4.grown (gset _ bb i x) (by simp only [ne_eq];omega)⟩
 have E:=hgr _ 5 (.slice (some ⟨u3.heap.size,0,none⟩) ln ln) (w.heap.size+1) (.inl rfl) (hgr _ 4 (.slice (some ⟨u2.heap.size,0,none⟩) rn rn) (w.heap.size+1) (.inl rfl) (hgr _ 3 (.slice (some ⟨u1.heap.size,0,none⟩) vn vn) (w.heap.size+1) (.inl rfl) (hgr _ 2 (.slice (some ⟨w.heap.size+1+1+1,0,none⟩) en en) (w.heap.size+1) (.inl rfl) (hgr _ 1 (.int .i64 next) (w.heap.size+1) (.inl rfl) (hgr _ 0 (.int .i64 size) (w.heap.size+1) (.inl rfl) (hgr _ 5 (.slice (some ⟨u3.heap.size,0,none⟩) ln ln) (w.heap.size+1+1) (.inr rfl) ⟨hB4,P1,P2,P3,P4⟩))))))
 have hW:=((((((X1.other ⟨w.heap.size+1+1,5,none⟩ (.slice (some ⟨u3.heap.size,0,none⟩) ln ln) (by simp only [ne_eq];omega)).set 0 (.int .i64 size)).set 1 (.int .i64 next)).set 2 (.slice (some ⟨w.heap.size+1+1+1,0,none⟩) en en)).set 3 (.slice (some ⟨u1.heap.size,0,none⟩) vn vn)).set 4 (.slice (some ⟨u2.heap.size,0,none⟩) rn rn)).set 5 (.slice (some ⟨u3.heap.size,0,none⟩) ln ln)
 simp only [List.setIfInBounds_toArray,List.set_cons_succ,List.set_cons_zero] at hW
 clear X1 X2 P1 P2 P3 P4 hgr hB4
 go_wp2
 generalize ((((((w4.setCell ⟨w.heap.size+1+1,5,none⟩ (.slice (some ⟨u3.heap.size,0,none⟩) ln ln)).setCell ⟨w.heap.size+1,0,none⟩ (.int .i64 size)).setCell ⟨w.heap.size+1,1,none⟩ (.int .i64 next)).setCell ⟨w.heap.size+1,2,none⟩ (.slice (some ⟨w.heap.size+1+1+1,0,none⟩) en en)).setCell ⟨w.heap.size+1,3,none⟩ (.slice (some ⟨u1.heap.size,0,none⟩) vn vn)).setCell ⟨w.heap.size+1,4,none⟩ (.slice (some ⟨u2.heap.size,0,none⟩) rn rn)).setCell ⟨w.heap.size+1,5,none⟩ (.slice (some ⟨u3.heap.size,0,none⟩) ln ln)=W8 at *
 refine bodyPost_ret (results_cell_row rfl _ W8 (w.heap.size+1) _ _ _ _ rfl hW Tryz.underlying26 rfl (by kernel_rfl)) rfl ?_
 obtain ⟨E0,E1,E2,E3,E4⟩:=E
 obtain ⟨q1,b1,_⟩:=E1.blk
 obtain ⟨q3,b3,_⟩:=E3.blk
 obtain ⟨q4,b4,_⟩:=E4.blk
 exact ⟨⟨_,rfl,_,_,_,_,_,_,_,_,_,_,_,_,rfl,⟨E1.sl,eO_ _ en (by omega),dM_ b1 (by omega)⟩,⟨E2.mono (by omega),eO_ _ vn (by omega)⟩,⟨E3.sl,eO_ _ rn (by omega),dM_ b3 (by omega)⟩,E4.sl,eO_ _ ln (by omega),dM_ b4 (by omega)⟩,E0⟩
end Go.Proofs.YtigldeccfpkdmaaGreatDoor
namespace Go.Proofs.YtigldeccfpkdmaaGreatDoor
open Go Go.RowKit Go.BigFrame
set_option maxHeartbeats 20000000
set_option maxRecDepth 100000
theorem k4_ (w:World) (b:Nat) (x y z:Value):w.grownBy (((w.setCell ⟨b,0,none⟩ x).setCell ⟨b,1,none⟩ y).setCell ⟨b,2,none⟩ z) (some b):=ac_ (ac_ (ac_ (World.grownBy.refl _ _) _ _) _ _) _ _
end Go.Proofs.YtigldeccfpkdmaaGreatDoor
namespace Go.Proofs.YtigldeccfpkdmaaGreatDoor
open Go.ChangeShapes Go.WideShapes Go.ChangeAt Go.RowKit Go.Deep
set_option maxHeartbeats 20000000
set_option maxRecDepth 100000
theorem bA_ {H:Type} {enc:TypeId×Value->H} {P:Program} {w:World} {spare:Nat->Bool} {held:Bool} {t e:TypeId} {fuel:Nat} {x:Value} {y:DataW H×List MemPlace} (ht:P.underlying t=some (.slice e)) (h:DataW.trod enc P w 0 spare held fuel t [x]=some y) :
  ∃ a n cap,x=.slice a n cap∧n<=cap∧cap<=9223372036854775807:=by
 rcases open_slice ht h with ⟨hcs,_⟩ | ⟨ad,len,cap',m,n',D,Pl,hcs,_,hl,hm,_⟩
 ·exact ⟨none,0,0,by simpa using hcs,by omega,by omega⟩
 ·exact ⟨some ad,len,cap',by simpa using hcs,hl,by unfold maxLen at hm;omega⟩
theorem cellsI:Tryz.prog.cellsOf 268=2:=by kernel_rfl
theorem cellsV:Tryz.prog.cellsOf 163=4:=by kernel_rfl
theorem cP:Tryz.prog.cellsOf 266=1:=by kernel_rfl
theorem cI:Tryz.prog.cellsOf 161=1:=by kernel_rfl
theorem c4b:Tryz.prog.cellsOf 4=1:=by kernel_rfl
def ItOpen (w:World) (ad:Addr) (i:Nat) (q:It):Prop:=
 ∃ pa pn pc,w.cell? (ad.add (i*2))=some (.string q.nm)∧w.cell? (ad.add (i*2+1))=some (.slice pa pn pc)∧PtsAt w pa pn q.ps∧pn<=pc∧pc<=9223372036854775807∧q.nm.size<=9223372036854775807
theorem oc_ {H:Type} {enc:TypeId×Value->H} {w:World} {spare:Nat->Bool} {held:Bool} {a:Option Addr} {n cap:Nat} {d:DataW H} {p:List MemPlace}
  (h:DataW.Trod enc Tryz.prog w 0 spare held 161 (.slice a n cap) d p):n<=9223372036854775807∧∃ l:List It,ItsAt 0 w a n l∧BigI l:=by
 obtain ⟨fuel,hf⟩:=h
 rcases open_slice Tryz.underlying161 hf with ⟨hcs,_⟩ | ⟨ad,len,cap',m,n',D,Pl,hcs,_,hl,hm,hmm,_,hel⟩
 ·simp [Value.cells] at hcs
  obtain ⟨rfl,rfl,rfl⟩:=hcs
  exact ⟨Nat.zero_le _,[],⟨rfl,fun i x hx=>by simp at hx⟩,fun x hx=>by simp at hx⟩
 ·simp [Value.cells] at hcs
  obtain ⟨rfl,rfl,rfl⟩:=hcs
  have hle:n<=m:=by rw [hmm];split<;>omega
  refine ⟨by unfold maxLen at hm;omega,?_⟩
  have hone:∀ i,i<n->∃ q:It,ItOpen w ad i q:=by
   intro i hi
   obtain ⟨cs',h1,h2⟩:=hel i (by omega)
   rw [cellsI] at h1
   obtain ⟨_,hlen,hcell⟩:=World.cells?_some h1
   obtain ⟨y0,y1,_,_,_,t0,t1⟩:=trod_struct2 Tryz.underlying268 h2
   obtain ⟨z0,e0,_,hz⟩:=DataW.trod_string Tryz.underlying9 t0
   match cs',hlen with
   |[x0,x1],_=>
    simp [c9,cP] at e0 t1
    subst e0
    obtain ⟨pa,pn,pc,rfl,hp1,hp2⟩:=bA_ Tryz.underlying266 t1
    obtain ⟨_,l,hl'⟩:=n9_ (d:=y1.1) (p:=y1.2) ⟨_,t1⟩
    have q0:=hcell 0 (by omega)
    have q1:=hcell 1 (by omega)
    rw [Addr.add_add] at q0 q1
    exact ⟨⟨z0,l⟩,pa,pn,pc,q0,q1,hl',hp1,hp2,by unfold maxLen at hz;exact hz⟩
  have hinh:Inhabited It:=⟨⟨.empty,[]⟩⟩
  obtain ⟨L,hL⟩:=choose_lt (α:=It) (p:=fun i q=>ItOpen w ad i q) hone
  refine ⟨(List.range n).map L,⟨by simp,fun i x hx=>?_⟩,fun x hx=>?_⟩
  ·have hi:i<n:=by have:=(List.getElem?_eq_some_iff.1 hx).1;simpa using this
   simp [hi] at hx
   subst hx
   obtain ⟨_,_,_,h00,_⟩:=hL 0 (by omega)
   obtain ⟨b,o,rfl⟩:=spotless h00 (by omega)
   obtain ⟨pa,pn,pc,c0,c1,r1,r2,r3,_⟩:=hL i hi
   rw [Addr.add_lit] at c0 c1
   exact ⟨b,o,pa,pn,pc,rfl,c0,by rw [Nat.add_assoc];exact c1,r1,⟨r2,r3,fun h0=>by omega⟩,Nat.zero_le _,fun _ _=>Nat.zero_le _,dy_,dy_⟩
  ·obtain ⟨i,hi,rfl⟩:=List.mem_map.1 hx
   obtain ⟨pa,pn,pc,c0,c1,r1,r2,r3,r4⟩:=hL i (by simpa using hi)
   exact ⟨r4,by rw [r1.len];omega⟩
def VoOpen (w:World) (ad:Addr) (i:Nat) (q:Vo):Prop:=
 ∃ pa pn pc,w.cell? (ad.add (i*4))=some (.int .i64 q.id)∧w.cell? (ad.add (i*4+1))=some (.string q.nm)∧w.cell? (ad.add (i*4+2))=some (.bool q.fx)∧w.cell? (ad.add (i*4+3))=some (.slice pa pn pc)∧ItsAt 0 w pa pn q.its∧pn<=pc∧pc<=9223372036854775807∧q.nm.size<=9223372036854775807∧BigI q.its
theorem o0_ {H:Type} {enc:TypeId×Value->H} {w:World} {spare:Nat->Bool} {held:Bool} {a:Option Addr} {n cap:Nat} {d:DataW H} {p:List MemPlace}
  (h:DataW.Trod enc Tryz.prog w 0 spare held 33 (.slice a n cap) d p):n<=9223372036854775807∧∃ l:List Vo,VsAt 0 w a n l∧BigV l:=by
 obtain ⟨fuel,hf⟩:=h
 rcases open_slice Tryz.underlying33 hf with ⟨hcs,_⟩ | ⟨ad,len,cap',m,n',D,Pl,hcs,_,hl,hm,hmm,_,hel⟩
 ·simp [Value.cells] at hcs
  obtain ⟨rfl,rfl,rfl⟩:=hcs
  exact ⟨Nat.zero_le _,[],⟨rfl,fun i x hx=>by simp at hx⟩,fun x hx=>by simp at hx⟩
 ·simp [Value.cells] at hcs
  obtain ⟨rfl,rfl,rfl⟩:=hcs
  have hle:n<=m:=by rw [hmm];split<;>omega
  refine ⟨by unfold maxLen at hm;omega,?_⟩
  have hone:∀ i,i<n->∃ q:Vo,VoOpen w ad i q:=by
   intro i hi
   obtain ⟨cs',h1,h2⟩:=hel i (by omega)
   rw [cellsV] at h1
   obtain ⟨_,hlen,hcell⟩:=World.cells?_some h1
   obtain ⟨y0,y1,y2,y3,_,_,_,t0,t1,t2,t3⟩:=Go.Joins.trod_struct4 Tryz.underlying163 h2
   obtain ⟨z0,e0,_,_⟩:=DataW.trod_int Tryz.underlying2 t0
   obtain ⟨z1,e1,_,hz⟩:=DataW.trod_string Tryz.underlying9 t1
   obtain ⟨z2,e2,_⟩:=DataW.trod_bool Tryz.underlying4 t2
   match cs',hlen with
   |[x0,x1,x2,x3],_=>
    simp [c2,c9,cI,c4b] at e0 e1 e2 t3
    subst e0 e1 e2
    obtain ⟨pa,pn,pc,rfl,hp1,hp2⟩:=bA_ Tryz.underlying161 t3
    obtain ⟨_,l,hl',hbl⟩:=oc_ (d:=y3.1) (p:=y3.2) ⟨_,t3⟩
    have q0:=hcell 0 (by omega)
    have q1:=hcell 1 (by omega)
    have q2:=hcell 2 (by omega)
    have q3:=hcell 3 (by omega)
    rw [Addr.add_add] at q0 q1 q2 q3
    exact ⟨⟨z0,z1,z2,l⟩,pa,pn,pc,q0,q1,q2,q3,hl',hp1,hp2,by unfold maxLen at hz;exact hz,hbl⟩
  have hinh:Inhabited Vo:=⟨⟨0,.empty,false,[]⟩⟩
  obtain ⟨L,hL⟩:=choose_lt (α:=Vo) (p:=fun i q=>VoOpen w ad i q) hone
  refine ⟨(List.range n).map L,⟨by simp,fun i x hx=>?_⟩,fun x hx=>?_⟩
  ·have hi:i<n:=by have:=(List.getElem?_eq_some_iff.1 hx).1;simpa using this
   simp [hi] at hx
   subst hx
   obtain ⟨_,_,_,h00,_⟩:=hL 0 (by omega)
   obtain ⟨b,o,rfl⟩:=spotless h00 (by omega)
   obtain ⟨pa,pn,pc,c0,c1,c2,c3,r1,r2,r3,_⟩:=hL i hi
   rw [Addr.add_lit] at c0 c1 c2 c3
   exact ⟨b,o,pa,pn,pc,rfl,c0,by rw [Nat.add_assoc];exact c1,by rw [Nat.add_assoc];exact c2,by rw [Nat.add_assoc];exact c3,r1,⟨r2,r3,fun h0=>by omega⟩,Nat.zero_le _,dy_⟩
  ·obtain ⟨i,hi,rfl⟩:=List.mem_map.1 hx
   obtain ⟨pa,pn,pc,c0,c1,c2,c3,r1,r2,r3,r4,r5⟩:=hL i (by simpa using hi)
   exact ⟨r4,by rw [r1.len];omega,r5⟩
theorem array6 {α:Type} {cs:Array α} (h:cs.size=6):∃ c0 c1 c2 c3 c4 c5,cs=#[c0,c1,c2,c3,c4,c5]:=by
 obtain ⟨l⟩:=cs
 match l,h with
 |[c0,c1,c2,c3,c4,c5],_=>exact ⟨c0,c1,c2,c3,c4,c5,rfl⟩
theorem mU_ {H:Type} {enc:TypeId×Value->H} {W:World} {r:Reach} {b0:Nat} {spare:Nat->Bool} {held:Bool} {v:Value} {d:DataW H} {p:List MemPlace}
  (hv:Value.okWide Tryz.prog W r b0 36 v) (h:DataW.Trod enc Tryz.prog W 0 spare held 36 v d p) :
  ∃ q:Po,PoolAt 0 W v q∧BigP q:=by
 have hc:Tryz.prog.cellsOf 36=6:=by kernel_rfl
 have hcE:Tryz.prog.cellsOf 32=1:=by kernel_rfl
 have hcV:Tryz.prog.cellsOf 33=1:=by kernel_rfl
 have hcC:Tryz.prog.cellsOf 34=1:=by kernel_rfl
 obtain ⟨cs,rfl,hsz⟩:=okWide_struct Tryz.underlying36 hv
 obtain ⟨c0,c1,c2',c3,c4,c5,rfl⟩:=array6 (hsz.trans hc)
 obtain ⟨fuel,hf⟩:=h
 obtain ⟨xs,n,_,_,_,hlen,hx⟩:=DataW.trod_struct Tryz.underlying36 hf
 have len6:xs.length=6:=hlen
 have q0:DataW.trod enc Tryz.prog W 0 spare held n 2 [c0]=some (xs[0]'(by omega)):=by
  have:=hx 0 _ rfl
  rw [List.getElem?_eq_getElem (by omega)] at this
  simpa [Value.cells,c2] using this
 have q1:DataW.trod enc Tryz.prog W 0 spare held n 2 [c1]=some (xs[1]'(by omega)):=by
  have:=hx 1 _ rfl
  rw [List.getElem?_eq_getElem (by omega)] at this
  simpa [Value.cells,c2] using this
 have q2:DataW.trod enc Tryz.prog W 0 spare held n 32 [c2']=some (xs[2]'(by omega)):=by
  have:=hx 2 _ rfl
  rw [List.getElem?_eq_getElem (by omega)] at this
  simpa [Value.cells,hcE] using this
 have q3:DataW.trod enc Tryz.prog W 0 spare held n 33 [c3]=some (xs[3]'(by omega)):=by
  have:=hx 3 _ rfl
  rw [List.getElem?_eq_getElem (by omega)] at this
  simpa [Value.cells,hcV] using this
 have q4:DataW.trod enc Tryz.prog W 0 spare held n 34 [c4]=some (xs[4]'(by omega)):=by
  have:=hx 4 _ rfl
  rw [List.getElem?_eq_getElem (by omega)] at this
  simpa [Value.cells,hcC] using this
 have q5:DataW.trod enc Tryz.prog W 0 spare held n 34 [c5]=some (xs[5]'(by omega)):=by
  have:=hx 5 _ rfl
  rw [List.getElem?_eq_getElem (by omega)] at this
  simpa [Value.cells,hcC] using this
 obtain ⟨n0,e0,_,_⟩:=DataW.trod_int Tryz.underlying2 q0
 obtain ⟨n1,e1,_,_⟩:=DataW.trod_int Tryz.underlying2 q1
 simp at e0 e1
 subst e0 e1
 obtain ⟨ea,en,ec,rfl,k1,k1'⟩:=bA_ Tryz.underlying32 q2
 obtain ⟨va,vn,vc,rfl,k2,k2'⟩:=bA_ Tryz.underlying33 q3
 obtain ⟨ra,rn,rc,rfl,k3,k3'⟩:=bA_ Tryz.underlying34 q4
 obtain ⟨la,ln,lc,rfl,k4,k4'⟩:=bA_ Tryz.underlying34 q5
 obtain ⟨_,ex,h1,s1⟩:=ob_ (d:=(xs[2]'(by omega)).1) (p:=(xs[2]'(by omega)).2) ⟨_,q2⟩
 obtain ⟨_,vs,h2,s2⟩:=o0_ (d:=(xs[3]'(by omega)).1) (p:=(xs[3]'(by omega)).2) ⟨_,q3⟩
 obtain ⟨_,rf,h3,s3⟩:=kf_ (d:=(xs[4]'(by omega)).1) (p:=(xs[4]'(by omega)).2) ⟨_,q4⟩
 obtain ⟨_,lt,h4,s4⟩:=kf_ (d:=(xs[5]'(by omega)).1) (p:=(xs[5]'(by omega)).2) ⟨_,q5⟩
 unfold maxLen at s1 s3 s4
 refine ⟨⟨n0,n1,ex,vs,rf,lt⟩,⟨ea,en,ec,va,vn,vc,ra,rn,rc,la,ln,lc,rfl,⟨h1,⟨k1,k1',fun h0=>by omega⟩,dy_⟩,⟨h2,k2,k2',fun h0=>by omega⟩,⟨h3,⟨k3,k3',fun h0=>by omega⟩,dy_⟩,h4,⟨k4,k4',fun h0=>by omega⟩,dy_⟩,?_⟩
 exact ⟨by show ex.length<=_;rw [h1.len];omega,fun e he=>by have:=s1 e he;omega,by show vs.length<=_;rw [h2.len];omega,s2,by show rf.length<=_;rw [h3.len];omega,fun e he=>by have:=s3 e he;omega,by show lt.length<=_;rw [h4.len];omega,fun e he=>by have:=s4 e he;omega⟩
end Go.Proofs.YtigldeccfpkdmaaGreatDoor
namespace Go.Proofs.YtigldeccfpkdmaaGreatDoor
open Go Go.RowKit Go.BigFrame
set_option maxHeartbeats 20000000
set_option maxRecDepth 100000
def put10 (w:World) (b:Nat) (x0 x1 x2 x3 x4 x5 x6 x7 x8 x9:Value):World:=(((((((((w.setCell ⟨b,0,none⟩ x0).setCell ⟨b,1,none⟩ x1).setCell ⟨b,2,none⟩ x2).setCell ⟨b,3,none⟩ x3).setCell ⟨b,4,none⟩ x4).setCell ⟨b,5,none⟩ x5).setCell ⟨b,6,none⟩ x6).setCell ⟨b,7,none⟩ x7).setCell ⟨b,8,none⟩ x8).setCell ⟨b,9,none⟩ x9
theorem mV_ {w:World} {b:Nat} {c0 c1 c2 c3 c4 c5 c6 c7 c8 c9:Value} {t:TypeId} (h:Blk w b #[c0,c1,c2,c3,c4,c5,c6,c7,c8,c9] t) (x0 x1 x2 x3 x4 x5 x6 x7 x8 x9:Value):Blk (put10 w b x0 x1 x2 x3 x4 x5 x6 x7 x8 x9) b #[x0,x1,x2,x3,x4,x5,x6,x7,x8,x9] t:=by
 unfold put10
 have:=(((((((((h.set 0 x0).set 1 x1).set 2 x2).set 3 x3).set 4 x4).set 5 x5).set 6 x6).set 7 x7).set 8 x8).set 9 x9
 simpa using this
theorem aB_ {w:World} {b:Nat} {c0 c1 c2 c3 c4 c5 c6 c7 c8 c9:Value} {t:TypeId} (h:Blk w b #[c0,c1,c2,c3,c4,c5,c6,c7,c8,c9] t) :
  (w.cell? ⟨b,0,none⟩=some c0∧w.cell? ⟨b,1,none⟩=some c1∧w.cell? ⟨b,2,none⟩=some c2∧w.cell? ⟨b,3,none⟩=some c3∧w.cell? ⟨b,4,none⟩=some c4∧w.cell? ⟨b,5,none⟩=some c5∧w.cell? ⟨b,6,none⟩=some c6∧w.cell? ⟨b,7,none⟩=some c7∧w.cell? ⟨b,8,none⟩=some c8∧w.cell? ⟨b,9,none⟩=some c9)∧
  w.frozen? ⟨b,0,none⟩=false∧w.frozen? ⟨b,1,none⟩=false∧w.frozen? ⟨b,2,none⟩=false∧w.frozen? ⟨b,3,none⟩=false∧w.frozen? ⟨b,4,none⟩=false∧w.frozen? ⟨b,5,none⟩=false∧w.frozen? ⟨b,6,none⟩=false∧w.frozen? ⟨b,7,none⟩=false∧w.frozen? ⟨b,8,none⟩=false∧w.frozen? ⟨b,9,none⟩=false:=
 ⟨⟨h.cell 0,h.cell 1,h.cell 2,h.cell 3,h.cell 4,h.cell 5,h.cell 6,h.cell 7,h.cell 8,h.cell 9⟩,h.frozen 0,h.frozen 1,h.frozen 2,h.frozen 3,h.frozen 4,h.frozen 5,h.frozen 6,h.frozen 7,h.frozen 8,h.frozen 9⟩
theorem kh_ (w:World) (b:Nat) (x0 x1 x2 x3 x4 x5 x6 x7 x8 x9:Value):w.grownBy (put10 w b x0 x1 x2 x3 x4 x5 x6 x7 x8 x9) (some b):=ac_ (ac_ (ac_ (ac_ (ac_ (ac_ (ac_ (ac_ (ac_ (ac_ (World.grownBy.refl _ _) _ _) _ _) _ _) _ _) _ _) _ _) _ _) _ _) _ _) _ _
theorem iy_ (v:Value) (s:Sr) (w:World) (h:StL w v s) (hb:BigD s.d) (hp:BigP s.p) :
  Calls Tryz.prog 31 #[v,.int .i64 1048576] w fun e w'=>(∃ r:Int,e=.returned (.int .i64 r)∧(r=-1∨(0<=r∧r<=1048576∧SmallDk s.d∧SmallP s.p)))∧Below w.heap.size w w':=by
 obtain ⟨d,p,m⟩:=s
 obtain ⟨la,ln,lc,sa,sn,sc,oa,on,oc,ea,en,ec,va,vn,vc,ra,rn,rc,ta,tn,tc,rfl,hD,hP⟩:=h
 simp only at *
 have C:=Blk.new w #[.slice la ln lc,.slice sa sn sc,.slice oa on oc,.int .i64 p.size,.int .i64 p.next,.slice ea en ec,.slice va vn vc,.slice ra rn rc,.slice ta tn tc,.int .i64 m] 65
 have hB0:Below w.heap.size w (w.alloc (.cells #[.slice la ln lc,.slice sa sn sc,.slice oa on oc,.int .i64 p.size,.int .i64 p.next,.slice ea en ec,.slice va vn vc,.slice ra rn rc,.slice ta tn tc,.int .i64 m] 65)):=by go_grown
 go_enter Tryz.func31,Tryz.ntmps31
 go_wp2_with fail
 generalize w.alloc (.cells #[.slice la ln lc,.slice sa sn sc,.slice oa on oc,.int .i64 p.size,.int .i64 p.next,.slice ea en ec,.slice va vn vc,.slice ra rn rc,.slice ta tn tc,.int .i64 m] 65)=W0 at *
 refine (e3_ _ d W0 (hD.below hB0) hb).mono ?_
 rintro e w1 ⟨⟨r,rfl,hr⟩,hB1⟩
 have C1:=C.below hB1
 replace hB1:=chain hB0 hB1
 clear C hB0
 rcases hr with rfl | ⟨r0,r1,hs⟩
 ·go_wp2
  go_returns
  exact ⟨⟨-1,rfl,.inl rfl⟩,hB1⟩
 obtain ⟨⟨c0,c1,c2,c3,c4,c5,c6,c7,c8,c9⟩,_⟩:=aB_ C1
 have hr':¬ r<0:=by omega
 go_wp2_with fail
 refine (ix_ 0 _ p r w1 (hP.below hB1) hp r0 r1).mono ?_
 rintro e w2 ⟨⟨q,rfl,hq⟩,hB2⟩
 replace hB2:=chain hB1 hB2
 clear c0 c1 c2 c3 c4 c5 c6 c7 c8 c9 C1 hB1
 rcases hq with rfl | ⟨q0,q1,qs⟩
 ·go_wp2
  go_returns
  exact ⟨⟨-1,rfl,.inl rfl⟩,hB2⟩
 ·have hq':¬ q<0:=by omega
  go_wp2
  go_returns
  exact ⟨⟨q,rfl,.inr ⟨q0,q1,hs,qs⟩⟩,hB2⟩
theorem iz_ (v v':Value) (s:Sr) (w:World) (h:StL w v s) (h':StL w v' s) (hd:SmallDk s.d) (hp:SmallP s.p) :
  Calls Tryz.prog 28 #[v,v'] w fun e w'=>e=.returned (.bool true)∧Below w.heap.size w w':=by
 obtain ⟨d,p,m⟩:=s
 obtain ⟨la,ln,lc,sa,sn,sc,oa,on,oc,ea,en,ec,va,vn,vc,ra,rn,rc,ta,tn,tc,rfl,hD,hP⟩:=h
 obtain ⟨la',ln',lc',sa',sn',sc',oa',on',oc',ea',en',ec',va',vn',vc',ra',rn',rc',ta',tn',tc',rfl,hD',hP'⟩:=h'
 simp only at *
 have hdim:=hd.dims
 have hl:d.live.length<=4194304∧d.safe.length<=4194304∧d.ops.length<=4194304:=by omega
 have hee:=hD_ d
 have hmm:(m != m)=false:=by simp
 obtain ⟨W0,hW0⟩:∃ W0,W0=(w.alloc (.cells #[.slice la ln lc,.slice sa sn sc,.slice oa on oc,.int .i64 p.size,.int .i64 p.next,.slice ea en ec,.slice va vn vc,.slice ra rn rc,.slice ta tn tc,.int .i64 m] 58)).alloc (.cells #[.slice la' ln' lc',.slice sa' sn' sc',.slice oa' on' oc',.int .i64 p.size,.int .i64 p.next,.slice ea' en' ec',.slice va' vn' vc',.slice ra' rn' rc',.slice ta' tn' tc',.int .i64 m] 58):=⟨_,rfl⟩
 have hB0:Below w.heap.size w W0:=by rw [hW0];go_grown
 have C:Blk W0 w.heap.size #[.slice la ln lc,.slice sa sn sc,.slice oa on oc,.int .i64 p.size,.int .i64 p.next,.slice ea en ec,.slice va vn vc,.slice ra rn rc,.slice ta tn tc,.int .i64 m] 58:=by rw [hW0];exact (Blk.new w _ _).alloc _
 have D:Blk W0 (w.heap.size+1) #[.slice la' ln' lc',.slice sa' sn' sc',.slice oa' on' oc',.int .i64 p.size,.int .i64 p.next,.slice ea' en' ec',.slice va' vn' vc',.slice ra' rn' rc',.slice ta' tn' tc',.int .i64 m] 58:=by rw [hW0];exact Blk.new' _ _ _ _ (by simp)
 go_enter Tryz.func28,Tryz.ntmps28
 go_wp2_with fail
 rw [<-hW0]
 clear hW0
 refine (e4_ _ _ d d W0 (hD.below hB0) (hD'.below hB0) hl hl).mono ?_
 rintro e w1 ⟨rfl,hB1⟩
 rw [hee]
 replace C:=C.below hB1
 replace D:=D.below hB1
 replace hB1:=chain hB0 hB1
 clear hB0
 obtain ⟨⟨c0,c1,c2,c3,c4,c5,c6,c7,c8,c9⟩,_⟩:=aB_ C
 obtain ⟨⟨d0,d1,d2,d3,d4,d5,d6,d7,d8,d9⟩,_⟩:=aB_ D
 go_wp2_with fail
 refine (ci_ 0 0 _ _ p w1 (hP.below hB1) (hP'.below hB1) hp).mono ?_
 rintro e w2 ⟨rfl,hB2⟩
 replace C:=C.below hB2
 replace D:=D.below hB2
 replace hB2:=chain hB1 hB2
 clear hB1 c0 c1 c2 c3 c4 c5 c6 c7 c8 c9 d0 d1 d2 d3 d4 d5 d6 d7 d8 d9
 have c9:=C.cell 9
 have d9:=D.cell 9
 simp only [lgA,lgB,lgC] at c9 d9
 go_wp2
 go_returns
 exact ⟨rfl,hB2⟩
theorem cR_ (v:Value) (s:Sr) (w:World) (h:StL w v s) (hd:SmallDk s.d) (hp:SmallP s.p) :
  Calls Tryz.prog 33 #[v] w fun e w'=>(∃ v',e=.returned v'∧StW (w.heap.size+1) w' v' s)∧Below w.heap.size w w':=by
 obtain ⟨d,p,m⟩:=s
 obtain ⟨la,ln,lc,sa,sn,sc,oa,on,oc,ea,en,ec,va,vn,vc,ra,rn,rc,ta,tn,tc,rfl,hD,hP⟩:=h
 simp only at *
 obtain ⟨W0,hW0⟩:∃ W0,W0=((w.alloc (.cells #[.slice la ln lc,.slice sa sn sc,.slice oa on oc,.int .i64 p.size,.int .i64 p.next,.slice ea en ec,.slice va vn vc,.slice ra rn rc,.slice ta tn tc,.int .i64 m] 65)).alloc (.cells #[.slice none 0 0,.slice none 0 0,.slice none 0 0,.int .i64 0,.int .i64 0,.slice none 0 0,.slice none 0 0,.slice none 0 0,.slice none 0 0,.int .i64 0] 58)).alloc (.cells #[.slice none 0 0,.slice none 0 0,.slice none 0 0,.int .i64 0,.int .i64 0,.slice none 0 0,.slice none 0 0,.slice none 0 0,.slice none 0 0,.int .i64 0] 58):=⟨_,rfl⟩
 have hB0:Below w.heap.size w W0:=by rw [hW0];go_grown
 have K0:Blk W0 w.heap.size #[.slice la ln lc,.slice sa sn sc,.slice oa on oc,.int .i64 p.size,.int .i64 p.next,.slice ea en ec,.slice va vn vc,.slice ra rn rc,.slice ta tn tc,.int .i64 m] 65:=by rw [hW0];exact ((Blk.new w _ _).alloc _).alloc _
 have K1:Blk W0 (w.heap.size+1) #[.slice none 0 0,.slice none 0 0,.slice none 0 0,.int .i64 0,.int .i64 0,.slice none 0 0,.slice none 0 0,.slice none 0 0,.slice none 0 0,.int .i64 0] 58:=by rw [hW0];exact (Blk.new' _ _ _ _ (by simp)).alloc _
 have K2:Blk W0 (w.heap.size+1+1) #[.slice none 0 0,.slice none 0 0,.slice none 0 0,.int .i64 0,.int .i64 0,.slice none 0 0,.slice none 0 0,.slice none 0 0,.slice none 0 0,.int .i64 0] 58:=by rw [hW0];exact Blk.new' _ _ _ _ (by simp)
 have hz0:W0.heap.size=w.heap.size+1+1+1:=by rw [hW0];simp
 go_enter Tryz.func33,Tryz.ntmps33
 go_wp2_with fail
 rw [<-hW0]
 clear hW0
 refine (bL_ _ d W0 (hD.below hB0) hd).mono ?_
 rintro e w1 ⟨⟨v1,rfl,P1⟩,hB1⟩
 obtain ⟨la1,ln1,lc1,sa1,sn1,sc1,oa1,on1,oc1,rfl⟩:=P1.at.l.cells
 replace K0:=K0.below hB1
 replace K1:=K1.below hB1
 replace K2:=K2.below hB1
 have hz1:=hB1.size
 replace hB1:=chain hB0 hB1
 clear hB0
 obtain ⟨⟨c0,c1,c2,c3,c4,c5,c6,c7,c8,c9⟩,f0,f1,f2,f3,f4,f5,f6,f7,f8,f9⟩:=aB_ K2
 go_upto_region 3 with fail
 clear c0 c1 c2 c3 c4 c5 c6 c7 c8 c9 f0 f1 f2 f3 f4 f5 f6 f7 f8 f9
 have T2:=((K2.set 0 (.slice la1 ln1 lc1)).set 1 (.slice sa1 sn1 sc1)).set 2 (.slice oa1 on1 oc1)
 simp only [List.setIfInBounds_toArray,List.set_cons_zero,List.set_cons_succ] at T2
 have hg1:=k4_ w1 (w.heap.size+1+1) (.slice la1 ln1 lc1) (.slice sa1 sn1 sc1) (.slice oa1 on1 oc1)
 have T0:=K0.grown hg1 (by omega)
 have T1:=K1.grown hg1 (by omega)
 have Q1:=P1.off hg1 (by omega)
 have hB2:=am_ hB1 hg1 (by omega)
 have hz2:W0.heap.size<=(((w1.setCell ⟨w.heap.size+1+1,0,none⟩ (.slice la1 ln1 lc1)).setCell ⟨w.heap.size+1+1,1,none⟩ (.slice sa1 sn1 sc1)).setCell ⟨w.heap.size+1+1,2,none⟩ (.slice oa1 on1 oc1)).heap.size:=by simpa using hz1
 generalize ((w1.setCell ⟨w.heap.size+1+1,0,none⟩ (.slice la1 ln1 lc1)).setCell ⟨w.heap.size+1+1,1,none⟩ (.slice sa1 sn1 sc1)).setCell ⟨w.heap.size+1+1,2,none⟩ (.slice oa1 on1 oc1)=u1 at *
 clear K0 K1 K2 P1 hB1 hg1 hz1
 obtain ⟨⟨c0,c1,c2,c3,c4,c5,c6,c7,c8,c9⟩,-⟩:=aB_ T0
 go_wp2_with fail
 clear c0 c1 c2 c3 c4 c5 c6 c7 c8 c9
 refine (kg_ 0 _ p u1 (hP.below hB2) hp).mono ?_
 rintro e w2 ⟨⟨v2,rfl,P2⟩,hB3⟩
 obtain ⟨ea2,en2,ec2,va2,vn2,vc2,ra2,rn2,rc2,ta2,tn2,tc2,rfl⟩:=P2.cells
 replace T0:=T0.below hB3
 replace T1:=T1.below hB3
 replace T2:=T2.below hB3
 replace Q1:=Q1.below hB3
 replace hB3:=chain hB2 hB3
 clear hB2
 obtain ⟨⟨c0,c1,c2,c3,c4,c5,c6,c7,c8,c9⟩,f0,f1,f2,f3,f4,f5,f6,f7,f8,f9⟩:=aB_ T2
 go_upto_region 4 with fail
 clear c0 c1 c2 c3 c4 c5 c6 c7 c8 c9 f0 f1 f2 f3 f4 f5 f6 f7 f8 f9
 have V2:=(((((T2.set 3 (.int .i64 p.size)).set 4 (.int .i64 p.next)).set 5 (.slice ea2 en2 ec2)).set 6 (.slice va2 vn2 vc2)).set 7 (.slice ra2 rn2 rc2)).set 8 (.slice ta2 tn2 tc2)
 simp only [List.setIfInBounds_toArray,List.set_cons_zero,List.set_cons_succ] at V2
 have hg2:w2.grownBy ((((((w2.setCell ⟨w.heap.size+1+1,3,none⟩ (.int .i64 p.size)).setCell ⟨w.heap.size+1+1,4,none⟩ (.int .i64 p.next)).setCell ⟨w.heap.size+1+1,5,none⟩ (.slice ea2 en2 ec2)).setCell ⟨w.heap.size+1+1,6,none⟩ (.slice va2 vn2 vc2)).setCell ⟨w.heap.size+1+1,7,none⟩ (.slice ra2 rn2 rc2)).setCell ⟨w.heap.size+1+1,8,none⟩ (.slice ta2 tn2 tc2)) (some (w.heap.size+1+1)):=ac_ (ac_ (ac_ (ac_ (ac_ (ac_ (World.grownBy.refl _ _) _ _) _ _) _ _) _ _) _ _) _ _
 have V0:=T0.grown hg2 (by omega)
 have V1:=T1.grown hg2 (by omega)
 have Q2:=Q1.off hg2 (by omega)
 have R2:=P2.off hg2 (by omega)
 have hB4:=am_ hB3 hg2 (by omega)
 generalize (((((w2.setCell ⟨w.heap.size+1+1,3,none⟩ (.int .i64 p.size)).setCell ⟨w.heap.size+1+1,4,none⟩ (.int .i64 p.next)).setCell ⟨w.heap.size+1+1,5,none⟩ (.slice ea2 en2 ec2)).setCell ⟨w.heap.size+1+1,6,none⟩ (.slice va2 vn2 vc2)).setCell ⟨w.heap.size+1+1,7,none⟩ (.slice ra2 rn2 rc2)).setCell ⟨w.heap.size+1+1,8,none⟩ (.slice ta2 tn2 tc2)=u2 at *
 clear T0 T1 T2 Q1 P2 hB3 hg2
 obtain ⟨⟨c0,c1,c2,c3,c4,c5,c6,c7,c8,c9⟩,f0,f1,f2,f3,f4,f5,f6,f7,f8,f9⟩:=aB_ V2
 have x9:=V0.cell 9
 simp only [lgA,lgB,lgC] at x9
 go_upto_region 5 with fail
 clear c0 c1 c2 c3 c4 c5 c6 c7 c8 c9 f0 f1 f2 f3 f4 f5 f6 f7 f8 f9 x9
 have X2:=V2.set 9 (.int .i64 m)
 simp only [List.setIfInBounds_toArray,List.set_cons_zero,List.set_cons_succ] at X2
 have hg3:u2.grownBy (u2.setCell ⟨w.heap.size+1+1,9,none⟩ (.int .i64 m)) (some (w.heap.size+1+1)):=ac_ (World.grownBy.refl _ _) _ _
 have X1:=V1.grown hg3 (by omega)
 have Q3:=Q2.off hg3 (by omega)
 have R3:=R2.off hg3 (by omega)
 have hB5:=am_ hB4 hg3 (by omega)
 generalize u2.setCell ⟨w.heap.size+1+1,9,none⟩ (.int .i64 m)=u3 at *
 clear V0 V1 V2 Q2 R2 hB4 hg3
 obtain ⟨⟨c0,c1,c2,c3,c4,c5,c6,c7,c8,c9⟩,_⟩:=aB_ X2
 obtain ⟨⟨d0,d1,d2,d3,d4,d5,d6,d7,d8,d9⟩,f0,f1,f2,f3,f4,f5,f6,f7,f8,f9⟩:=aB_ X1
 go_wp2
 have E:=mV_ X1 (.slice la1 ln1 lc1) (.slice sa1 sn1 sc1) (.slice oa1 on1 oc1) (.int .i64 p.size) (.int .i64 p.next) (.slice ea2 en2 ec2) (.slice va2 vn2 vc2) (.slice ra2 rn2 rc2) (.slice ta2 tn2 tc2) (.int .i64 m)
 have hg8:=kh_ u3 (w.heap.size+1) (.slice la1 ln1 lc1) (.slice sa1 sn1 sc1) (.slice oa1 on1 oc1) (.int .i64 p.size) (.int .i64 p.next) (.slice ea2 en2 ec2) (.slice va2 vn2 vc2) (.slice ra2 rn2 rc2) (.slice ta2 tn2 tc2) (.int .i64 m)
 have hB8:=am_ hB5 hg8 (by omega)
 have Q8:=(Q3.off hg8 (by omega)).mono (show w.heap.size+1<=W0.heap.size+1 by omega)
 have R8:=(R3.off hg8 (by omega)).mono (show w.heap.size+1<=u1.heap.size+1 by omega)
 change bodyPost _ _ _ _ _ (put10 u3 (w.heap.size+1) (.slice la1 ln1 lc1) (.slice sa1 sn1 sc1) (.slice oa1 on1 oc1) (.int .i64 p.size) (.int .i64 p.next) (.slice ea2 en2 ec2) (.slice va2 vn2 vc2) (.slice ra2 rn2 rc2) (.slice ta2 tn2 tc2) (.int .i64 m))
 generalize put10 u3 (w.heap.size+1) (.slice la1 ln1 lc1) (.slice sa1 sn1 sc1) (.slice oa1 on1 oc1) (.int .i64 p.size) (.int .i64 p.next) (.slice ea2 en2 ec2) (.slice va2 vn2 vc2) (.slice ra2 rn2 rc2) (.slice ta2 tn2 tc2) (.int .i64 m)=W8 at *
 refine bodyPost_ret (results_cell_row rfl _ W8 (w.heap.size+1) _ _ _ _ rfl E Tryz.underlying58 rfl (by kernel_rfl)) rfl ?_
 exact ⟨⟨_,rfl,_,_,_,_,_,_,_,_,_,_,_,_,_,_,_,_,_,_,_,_,_,rfl,Q8,R8⟩,hB8⟩
end Go.Proofs.YtigldeccfpkdmaaGreatDoor
