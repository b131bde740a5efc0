/- Committed by both: the row. -/
import Derived.Test.YtigldeccfpkdmaaGreatDoorK04
import Derived.Test.YtigldeccfpkdmaaGreatDoorK00
import Derived.Test.YtigldeccfpkdmaaGreatDoorK03
import Derived.Test.YtigldeccfpkdmaaGreatDoorK06
import Derived.Test.YtigldeccfpkdmaaGreatDoorK07
import Derived.Test.YtigldeccfpkdmaaGreatDoorK02
import Derived.Test.YtigldeccfpkdmaaGreatDoorK05
import Derived.Maps.AppendAt
import Derived.Test.YtigldeccfpkdmaaGreatDoorK22
import Derived.Test.YtigldeccfpkdmaaGreatDoorK23
import Derived.Test.YtigldeccfpkdmaaGreatDoorK24
import Derived.Test.YtigldeccfpkdmaaGreatDoorK25
import Derived.Test.YtigldeccfpkdmaaGreatDoorK26
import Derived.Test.YtigldeccfpkdmaaGreatDoorK27
import Derived.Lib.SliceRun
import Derived.Test.YtigldeccfpkdmaaGreatDoorK28
import Derived.Test.YtigldeccfpkdmaaGreatDoorK29
import Derived.Test.YtigldeccfpkdmaaGreatDoorK30
import Derived.Test.YtigldeccfpkdmaaGreatDoorK31
import Derived.Test.YtigldeccfpkdmaaGreatDoorK43
import Derived.Test.YtigldeccfpkdmaaGreatDoorK32
import Derived.Lib.SmallJoins
import Derived.Test.YtigldeccfpkdmaaGreatDoorK14
import Derived.Test.YtigldeccfpkdmaaGreatDoorProg
import Derived.Test.YtigldeccfpkdmaaGreatDoorK10
import Derived.Test.YtigldeccfpkdmaaGreatDoorK11
import Derived.Test.YtigldeccfpkdmaaGreatDoorK12
import Derived.Test.YtigldeccfpkdmaaGreatDoorK35
import Derived.Test.YtigldeccfpkdmaaGreatDoorK36
import Derived.Test.YtigldeccfpkdmaaGreatDoorK37
import Derived.Test.YtigldeccfpkdmaaGreatDoorK38
import Derived.Test.YtigldeccfpkdmaaGreatDoorK16
import Derived.Test.YtigldeccfpkdmaaGreatDoorK01
import Derived.Test.YtigldeccfpkdmaaGreatDoorK33
import Derived.Test.YtigldeccfpkdmaaGreatDoorK34
import Derived.Test.YtigldeccfpkdmaaGreatDoorK39
import Derived.Test.YtigldeccfpkdmaaGreatDoorK40
import Derived.Test.YtigldeccfpkdmaaGreatDoorK41
import Derived.Test.YtigldeccfpkdmaaGreatDoorK42
import Derived.Test.YtigldeccfpkdmaaGreatDoorK44
import Derived.Test.YtigldeccfpkdmaaGreatDoorK17
import Derived.Test.YtigldeccfpkdmaaGreatDoorK13
import Derived.Test.YtigldeccfpkdmaaGreatDoorK09
import Derived.Test.YtigldeccfpkdmaaGreatDoorK20
import Derived.Test.YtigldeccfpkdmaaGreatDoorK21
import Derived.Test.YtigldeccfpkdmaaGreatDoorK08
import Derived.Test.YtigldeccfpkdmaaGreatDoorK15
import Derived.Test.YtigldeccfpkdmaaGreatDoorK18
import Derived.Test.YtigldeccfpkdmaaGreatDoorK19
import Derived.Deep.RegionLaw
import Derived.Laws.AppendOwnNone
import Derived.WalkKit
import Derived.ProofKit
import Derived.OpenShut
import Derived.Handy
import Derived.Deep.Light
import Derived.Deep.RegionHeld3
import Derived.Deep.QuietTactic
import Derived.BigQuiet
import Derived.WalkSmall
import Derived.Laws.Cover1
import Derived.Laws.StructEq
import Derived.OrdersHeld
import Derived.StillTail
import Derived.RangeFuncNested
import Derived.RangeFuncBound
import Derived.RangeFuncCalls
import Derived.RangeFuncLeaves
import Derived.RangeFuncBox
import Derived.Shelf.Abstract
import Derived.Shelf.RegionOpen
import Derived.OwnWalkIn
import Derived.TacticsInMore
import Derived.LoopNIn
import Derived.LoopIn
import Derived.RangeFuncFrom
import Derived.Test.YtigldeccfpkdmaaGreatDoorCCommittedx45
import Derived.Lib.AppendZerosOnto
import Derived.Lib.Overlaps
import Derived.Laws.CopyOwn
import Derived.Laws.NewBlocks
import Derived.ArgAppend
import Derived.Laws.Rows
import Derived.Deep.Strs
import Derived.Deep.Slices
import Derived.SizedLaws
import Derived.StillTailTactics
import Derived.Lib.Strings
import Derived.Deep.DeepCutAuto
import Derived.Lib.AtoiTie
import Derived.Lib.ParseIntBTie
import Derived.Lib.Split
import Derived.Lib.Atoi
import Derived.Defers
import Derived.Recover
import Derived.Test.YtigldeccfpkdmaaGreatDoorCCommittedx47
import Derived.Maps.RangeWalk
import Derived.Maps.Views
import Derived.WideKeyEntry
import Derived.DeepKeys4
import Derived.Shelf.Strings.Cut
import Derived.Shelf.Strconv.Itoa4
import Derived.Shelf.Strings.Prefix
import Derived.Shelf.Strings.OnBuilder
import Derived.Shelf.SlSortCmp.NoneTotal
import Derived.Shelf.Strconv.ErrVarParseInt
import Derived.Shelf.Small.Strs
import Derived.Shelf.Strings.SplitShaped
import Derived.Lib.AppendStr
import Derived.Laws.BytesArg
import Derived.Laws.Strings2
import Derived.Shelf.Strings.BuilderK
import Derived.Lib.AppendIntMem
import Derived.Lib.ItoaNum
import Derived.Laws.Closers25b
import Derived.Laws.BitsLemmas
import Derived.Maps.OwnSet
import Derived.Test.YtigldeccfpkdmaaGreatDoorRows
import Derived.ChangeSame
import Derived.ChangeVars
import Derived.ChangeMaps5
import Derived.JoinedOf
import Derived.RowKitTokens
import Derived.LaidLaws
import Derived.LaidHandle
import Derived.Lay
import Derived.MakeChecks
import Derived.Stop.LaidErr
import Derived.Lib.LaidTab
namespace Go.Proofs.YtigldeccfpkdmaaGreatDoor
open Go Go.RowKit Go.BigFrame
set_option maxHeartbeats 20000000
set_option maxRecDepth 100000
theorem n7_ {d:Dk} (h:diskB d=false):comO d=none:=by
 have hr:∀ i,rcO d i=none:=fun i=>by rw [rcO,n1_ _ h];simp
 have ha:∀ i,accC d i=(-1,emptyP):=fun i=>by
  induction i with
  |zero=>rfl
  |succ i ih=>rw [accC,hr i,ih];rfl
 rw [comO,ha 3]
 simp
theorem gp_ (v:Value) (d:Dk) (w:World) (h:DiskAt w v d) (hd:DimD d) (hz:∀ nm,(rdD d nm).1.size<=2000000) :
  Calls Tryz.prog 21 #[v] w fun e w'=>(∃ u,e=.returned (.tuple #[.int .i64 ((comO d).elim 0 (·.1)),u,.bool (comO d).isSome])∧PoolM w.heap.size w' u ((comO d).elim emptyP (·.2)))∧Below w.heap.size w w':=by
 have hD:=h
 obtain ⟨la,ln,lc,sa,sn,sc,oa,on,oc,rfl,_⟩:=h
 obtain ⟨A,hA⟩:∃ A,Hid (comO d=A):=⟨_,rfl⟩
 rw [hA.out]
 obtain ⟨W0,hW0⟩:∃ W0,W0=((w.alloc (.cells #[.slice la ln lc,.slice sa sn sc,.slice oa on oc] 52)).alloc (.cells #[.int .i64 0,.int .i64 0,.slice none 0 0,.slice none 0 0,.slice none 0 0,.slice none 0 0] 26)):=⟨_,rfl⟩
 have hA0:Below w.heap.size w W0:=by rw [hW0];go_grown
 have QB:Blk W0 (w.heap.size+1) #[.int .i64 0,.int .i64 0,.slice none 0 0,.slice none 0 0,.slice none 0 0,.slice none 0 0] 26:=by rw [hW0];exact Blk.new' _ _ _ _ (by simp)
 have DB:Blk W0 w.heap.size #[.slice la ln lc,.slice sa sn sc,.slice oa on oc] 52:=by rw [hW0];exact (Blk.new w _ _).alloc _
 go_enter Tryz.func21,Tryz.ntmps21
 go_wp2_with fail
 rw [<-hW0]
 clear hW0
 refine (e1_ _ d W0 (hD.below hA0) hd).mono ?_
 rintro e w1 ⟨rfl,hB1⟩
 replace QB:=QB.below hB1
 replace DB:=DB.below hB1
 replace hB1:=chain hA0 hB1
 clear hA0
 cases hdb:diskB d with
 |false=>
  have hAn:A=none:=by rw [<-hA.out,n7_ hdb]
  subst hAn
  obtain ⟨r0,r1,r2,r3,r4,r5⟩:=QB.sixM
  obtain ⟨f0,f1,f2,f3,f4,f5⟩:=fz6 QB
  go_wp2
  obtain ⟨E8,M8,hB8⟩:=an_ (p:=emptyP) QB hB1 (by omega) (emptyM w.heap.size w1)
  change bodyPost _ _ _ _ _ (put6 w1 (w.heap.size+1) (.int .i64 0) (.int .i64 0) (.slice none 0 0) (.slice none 0 0) (.slice none 0 0) (.slice none 0 0))
  generalize put6 w1 (w.heap.size+1) (.int .i64 0) (.int .i64 0) (.slice none 0 0) (.slice none 0 0) (.slice none 0 0) (.slice none 0 0)=W8 at *
  refine bodyPost_ret (as_ rfl _ W8 (w.heap.size+1) _ _ _ _ _ _ rfl rfl rfl E8 Tryz.underlying26 rfl (by kernel_rfl)) rfl ?_
  exact ⟨⟨_,rfl,M8⟩,hB8⟩
 |true=>
  have hq1:=QB.lt
  have qb:=e9_ _ d w1 (hD.below hB1) hd hdb hz (by omega)
  have hAe:Hid ((if (accC d 3).1<0 then none else some (accC d 3))=A):=hA.out
  generalize accC d 3=a at *
  obtain ⟨b,p0⟩:=a
  simp only at qb
  have c0:=DB.cell 0
  have c1:=DB.cell 1
  have c2:=DB.cell 2
  go_wp2_with fail
  refine qb.mono ?_
  rintro e w3 ⟨⟨v3,rfl,M0⟩,hb3⟩
  obtain ⟨ea0,en0,ec0,va0,vn0,vc0,ra0,rn0,rc0,la0,ln0,lc0,vr1,rfl,_⟩:=M0.out
  have hA3:Below w3.heap.size w3 (w3.alloc (.cells #[.int .i64 p0.size,.int .i64 p0.next,.slice ea0 en0 ec0,.slice va0 vn0 vc0,.slice ra0 rn0 rc0,.slice la0 ln0 lc0] 26)):=(Below.refl _ _).alloc (Nat.le_refl _) _
  obtain ⟨b3,hb30⟩:∃ b,b=w3.heap.size:=⟨_,rfl⟩
  have PB:Blk (w3.alloc (.cells #[.int .i64 p0.size,.int .i64 p0.next,.slice ea0 en0 ec0,.slice va0 vn0 vc0,.slice ra0 rn0 rc0,.slice la0 ln0 lc0] 26)) b3 #[.int .i64 p0.size,.int .i64 p0.next,.slice ea0 en0 ec0,.slice va0 vn0 vc0,.slice ra0 rn0 rc0,.slice la0 ln0 lc0] 26:=Blk.new' _ _ _ _ hb30
  have hc3:=chain hb3 hA3
  have hq3:=hb3.size
  have hne3:w.heap.size+1≠b3:=by rw [hb30];omega
  replace QB:=QB.below hc3
  replace M0:=(M0.below hA3).mono (show w.heap.size+2<=_ by omega)
  have hB:=chain hB1 hc3
  clear hb3 hA3 hc3 qb hB1 c0 c1 c2 DB
  go_upto_region 4 with fail
  rw [<-hb30]
  clear hb30
  generalize w3.alloc (.cells #[.int .i64 p0.size,.int .i64 p0.next,.slice ea0 en0 ec0,.slice va0 vn0 vc0,.slice ra0 rn0 rc0,.slice la0 ln0 lc0] 26)=wr at *
  by_cases hneg:b<0
  ·rw [if_pos hneg] at hAe
   have:=hAe.out
   subst this
   obtain ⟨r0,r1,r2,r3,r4,r5⟩:=QB.sixM
   obtain ⟨f0,f1,f2,f3,f4,f5⟩:=fz6 QB
   go_wp2
   obtain ⟨E8,M8,hB8⟩:=an_ (p:=emptyP) QB hB (by omega) (emptyM w.heap.size wr)
   change bodyPost _ _ _ _ _ (put6 wr (w.heap.size+1) (.int .i64 0) (.int .i64 0) (.slice none 0 0) (.slice none 0 0) (.slice none 0 0) (.slice none 0 0))
   generalize put6 wr (w.heap.size+1) (.int .i64 0) (.int .i64 0) (.slice none 0 0) (.slice none 0 0) (.slice none 0 0) (.slice none 0 0)=W8 at *
   refine bodyPost_ret (as_ rfl _ W8 (w.heap.size+1) _ _ _ _ _ _ rfl rfl rfl E8 Tryz.underlying26 rfl (by kernel_rfl)) rfl ?_
   exact ⟨⟨_,rfl,M8⟩,hB8⟩
  ·rw [if_neg hneg] at hAe
   have:=hAe.out
   subst this
   go_upto_region 6 with fail
   have hWd:Below wr.heap.size wr wr.drew:=(Below.refl _ _).drew
   replace QB:=QB.below hWd
   replace PB:=PB.below hWd
   replace M0:=M0.below hWd
   replace hB:=chain hB hWd
   have hS0:(fun u=>u.cell? ⟨b3,0,none⟩=some (.int .i64 p0.size)∧u.cell? ⟨b3,1,none⟩=some (.int .i64 p0.next)∧u.cell? ⟨b3,2,none⟩=some (.slice ea0 en0 ec0)∧u.cell? ⟨b3,3,none⟩=some (.slice va0 vn0 vc0)∧u.cell? ⟨b3,4,none⟩=some (.slice ra0 rn0 rc0)∧u.cell? ⟨b3,5,none⟩=some (.slice la0 ln0 lc0)) wr.drew:=PB.sixM
   refine ad_ (S:=(fun u=>u.cell? ⟨b3,0,none⟩=some (.int .i64 p0.size)∧u.cell? ⟨b3,1,none⟩=some (.int .i64 p0.next)∧u.cell? ⟨b3,2,none⟩=some (.slice ea0 en0 ec0)∧u.cell? ⟨b3,3,none⟩=some (.slice va0 vn0 vc0)∧u.cell? ⟨b3,4,none⟩=some (.slice ra0 rn0 rc0)∧u.cell? ⟨b3,5,none⟩=some (.slice la0 ln0 lc0))) 5 (by kernel_rfl) rfl ?_
   generalize wr.drew=y0 at *
   clear hWd
   refine tk 0 ?_
   refine tk 1 ?_
   refine tk 2 ?_
   obtain ⟨r0,r1,r2,r3,r4,r5⟩:=QB.sixM
   obtain ⟨f0,f1,f2,f3,f4,f5⟩:=fz6 QB
   refine oneL (i:=3) (by kernel_rfl) rfl (fun K hK=>?_)
   go_simp
   obtain ⟨E8,hg8⟩:=put6F QB (.int .i64 p0.size) (.int .i64 p0.next) (.slice ea0 en0 ec0) (.slice va0 vn0 vc0) (.slice ra0 rn0 rc0) (.slice la0 ln0 lc0)
   have P8:=PB.grown hg8 (by simpa using hne3.symm)
   have M8:=(M0.box hg8 QB).mono (show w.heap.size<=w.heap.size+2 by omega)
   have hB8:=hB.grown hg8 (by have:=QB.lt;omega) (fun k e=>by cases e;omega)
   refine hK.out _ _ P8.sixM (fun hHeld=>?_)
   clear hK K
   try simp only [Act.put,lsA,lsB,lsC]
   generalize ((((((y0).setCell ⟨w.heap.size+1,0,none⟩ (.int .i64 p0.size)).setCell ⟨w.heap.size+1,1,none⟩ (.int .i64 p0.next)).setCell ⟨w.heap.size+1,2,none⟩ (.slice ea0 en0 ec0)).setCell ⟨w.heap.size+1,3,none⟩ (.slice va0 vn0 vc0)).setCell ⟨w.heap.size+1,4,none⟩ (.slice ra0 rn0 rc0)).setCell ⟨w.heap.size+1,5,none⟩ (.slice la0 ln0 lc0)=W8 at *
   refine tk 4 ?_
   refine wpAnyH_done (by kernel_rfl) ?_ _
   go_wp2
   refine bodyPost_ret (as_ rfl _ W8 (w.heap.size+1) _ _ _ _ _ _ rfl rfl rfl E8 Tryz.underlying26 rfl (by kernel_rfl)) rfl ?_
   exact ⟨⟨_,rfl,M8⟩,hB8⟩
theorem oZ_ (s:ByteArray):DimK ((rsO s).elim emptyP (·.2)):=by
 unfold rsO
 split
 ·cases numP (hdB (midB s.data.toList)) with
  |none=>exact aS_
  |some n=>
   have h:=gh_ (tlB (midB s.data.toList))
   cases ha:ansO (tlB (midB s.data.toList)) with
   |none=>exact aS_
   |some p=>
    rw [ha] at h
    show DimK ((if superO n p=s then some (n,p) else none).elim emptyP (·.2))
    split
    ·exact h
    ·exact aS_
 ·exact aS_
theorem ItR.frd {w w':World} {B T B':Nat} {r:IR} {x:It} (h:ItR w B' r x) (hf:FrD B T w w') (hT:T<=B'):ItR w' B' r x:=⟨h.nm,h.ps.frd (by intro _;rfl) hf hT⟩
theorem VoR.frd {w w':World} {B T B':Nat} {r:VR} {v:Vo} (h:VoR w B' r v) (hf:FrD B T w w') (hT:T<=B'):VoR w' B' r v:=⟨h.id,h.nm,h.fx,h.rows.frd (by intro _;rfl) hf hT,h.its.imp fun _ _ _ h=>h.frd hf hT⟩
theorem PoolM.frd {B T B':Nat} {w w':World} {v:Value} {p:Po} (h:PoolM B' w v p) (hf:FrD B T w w') (hT:T<=B'):PoolM B' w' v p:=by
 obtain ⟨ea,en,ec,va,vn,vc,ra,rn,rc,la,ln,lc,vr,e,h1,h2,h3,h4,h5,h6,h7,h8⟩:=h.out
 exact ⟨ea,en,ec,va,vn,vc,ra,rn,rc,la,ln,lc,vr,e,h1.frd (by intro _;rfl) hf hT,h2.frd (by intro _;rfl) hf hT,h3.frd (by intro _;rfl) hf hT,h4.frd (by intro _;rfl) hf hT,h5,h6.imp fun _ _ _ h=>h.frd hf hT,h7,h8⟩
theorem k3_ {n:Nat} {w:World} (h:n<=w.heap.size):Below (cutW n w).heap.size (cutW n w) w:=
 ⟨rfl,rfl,rfl,by rw [dx_ h];exact h,fun k hk=>by rw [dx_ h] at hk;exact (lX_ hk h).symm⟩
theorem n8_ (d:Dk):DimK ((comO d).elim emptyP (·.2)):=by
 have hr:∀ i q,rcO d i=some q->DimK q.2:=fun i q hq=>by
  unfold rcO at hq
  split at hq
  ·have:=oZ_ (rdD d (slN i)).1
   rw [hq] at this
   exact this
  ·cases hq
 have ha:∀ i,DimK (accC d i).2:=fun i=>by
  induction i with
  |zero=>exact aS_
  |succ i ih=>
   show DimK (stepC (accC d i) i (rcO d i)).2
   cases hq:rcO d i with
   |none=>exact ih
   |some q=>
    simp only [stepC]
    split
    ·exact hr i q hq
    ·exact ih
 unfold comO
 split
 ·exact aS_
 ·exact ha 3
theorem walkCommitted (v:Value) (d:Dk) (w:World) (h:DiskL w v d) (hb:BigD d) (hG:Glb w) :
  Calls Tryz.prog 6 #[v] w fun e w'=>e=.returned (.bool true)∧Below w.heap.size w w':=by
 have hee:=hD_ d
 obtain ⟨la,ln,lc,sa,sn,sc,oa,on,oc,rfl⟩:=h.cells
 have C:=(Blk.new w #[.slice la ln lc,.slice sa sn sc,.slice oa on oc] 46)
 have hB0:Below w.heap.size w (w.alloc (.cells #[.slice la ln lc,.slice sa sn sc,.slice oa on oc] 46)):=by go_grown
 go_enter Tryz.func6,Tryz.ntmps6
 go_wp2_with fail
 generalize w.alloc (.cells #[.slice la ln lc,.slice sa sn sc,.slice oa on oc] 46)=W0 at *
 refine (e3_ _ d _ (h.below hB0) hb).mono ?_
 rintro e w1 ⟨⟨r,rfl,hr⟩,hB1⟩
 have C1:=C.below hB1
 replace hB1:=chain hB0 hB1
 clear C hB0
 rcases hr with rfl | ⟨r0,r1,hs⟩
 ·go_wp2
  go_returns
  exact ⟨rfl,hB1⟩
 have hd:=hs.dim
 have hdim:=hs.dims
 have hl:d.live.length<=4194304∧d.safe.length<=4194304∧d.ops.length<=4194304:=by omega
 have hK:=n8_ d
 have qs:=fun (u:World) (v:Value) (hv:DiskAt u v d)=>gp_ v d u hv hd hs.rd
 have qi:=fun (u:World) (v:Value) (hv:DiskAt u v d) (hu:Glb u)=>dg_ v d u hv hd hs.rd hu
 obtain ⟨ok,hok⟩:∃ ok,Hid ((comO d).isSome=ok):=⟨_,rfl⟩
 obtain ⟨p,hp⟩:∃ p,Hid ((comO d).elim emptyP (·.2)=p):=⟨_,rfl⟩
 obtain ⟨num,hnum⟩:∃ z,Hid ((comO d).elim 0 (·.1)=z):=⟨_,rfl⟩
 rw [hp.out] at hK
 simp only [hok.out,hp.out,hnum.out] at qs qi
 have hnn:(num != num)=false:=by simp
 have hoo:(ok != ok)=false:=by simp
 obtain ⟨d0,d1,d2⟩:=C1.three
 go_wp2_with fail
 refine (bL_ _ d _ (h.below hB1) hs).mono ?_
 rintro e w2 ⟨⟨v2,rfl,P2⟩,hB2⟩
 have C2:=C1.below hB2
 replace hB2:=chain hB1 hB2
 clear d0 d1 d2 C1 hB1
 go_wp2_with fail
 refine (qs w2 v2 P2.at).mono ?_
 rintro e w3 ⟨⟨v3,rfl,M3⟩,hB3⟩
 obtain ⟨ea3,en3,ec3,va3,vn3,vc3,ra3,rn3,rc3,fa3,fn3,fc3,vr3,rfl,_⟩:=M3.out
 have C3:=C2.below hB3
 replace hB3:=chain hB2 hB3
 clear C2 hB2 P2
 have hlt3:Hid (w.heap.size<w3.heap.size):=C3.lt
 have hA3:Below w3.heap.size w3 (w3.alloc (.cells #[.int .i64 p.size,.int .i64 p.next,.slice ea3 en3 ec3,.slice va3 vn3 vc3,.slice ra3 rn3 rc3,.slice fa3 fn3 fc3] 26)):=(Below.refl _ _).alloc (Nat.le_refl _) _
 obtain ⟨b3,hb30⟩:∃ b,b=w3.heap.size:=⟨_,rfl⟩
 have A3:Blk (w3.alloc (.cells #[.int .i64 p.size,.int .i64 p.next,.slice ea3 en3 ec3,.slice va3 vn3 vc3,.slice ra3 rn3 rc3,.slice fa3 fn3 fc3] 26)) b3 #[.int .i64 p.size,.int .i64 p.next,.slice ea3 en3 ec3,.slice va3 vn3 vc3,.slice ra3 rn3 rc3,.slice fa3 fn3 fc3] 26:=Blk.new' _ _ _ _ hb30
 have hs3:(w3.alloc (.cells #[.int .i64 p.size,.int .i64 p.next,.slice ea3 en3 ec3,.slice va3 vn3 vc3,.slice ra3 rn3 rc3,.slice fa3 fn3 fc3] 26)).heap.size=w3.heap.size+1:=by simp
 obtain ⟨q0,q1,q2⟩:=(C3.below hA3).three
 go_wp2_with fail
 rw [<-hb30]
 have hb3H:Hid (b3=w3.heap.size):=hb30
 clear hb30
 generalize w3.alloc (.cells #[.int .i64 p.size,.int .i64 p.next,.slice ea3 en3 ec3,.slice va3 vn3 vc3,.slice ra3 rn3 rc3,.slice fa3 fn3 fc3] 26)=W3 at *
 clear q0 q1 q2
 replace C3:=C3.below hA3
 replace M3:=M3.below hA3
 replace hB3:=chain hB3 hA3
 have hs3H:Hid (W3.heap.size=w3.heap.size+1):=hs3
 clear hA3 hs3
 refine (bL_ _ d _ (h.below hB3) hs).mono ?_
 rintro e w4 ⟨⟨v4,rfl,P4⟩,hB4⟩
 obtain ⟨la4,ln4,lc4,sa4,sn4,sc4,oa4,on4,oc4,rfl⟩:=P4.at.l.cells
 have I4:=P4.inB
 have C4:=C3.below hB4
 have A4:=A3.below hB4
 have Z4:Below W3.heap.size W3 w4:=hB4
 have hz4:=hB4.size
 replace hB4:=chain hB3 hB4
 clear C3 A3 hB3
 have hA4:Below w4.heap.size w4 (w4.alloc (.cells #[.slice la4 ln4 lc4,.slice sa4 sn4 sc4,.slice oa4 on4 oc4] 52)):=by go_grown
 have X4:=Blk.new w4 #[.slice la4 ln4 lc4,.slice sa4 sn4 sc4,.slice oa4 on4 oc4] 52
 have hs4:Hid ((w4.alloc (.cells #[.slice la4 ln4 lc4,.slice sa4 sn4 sc4,.slice oa4 on4 oc4] 52)).heap.size=w4.heap.size+1):=by show _=_;simp
 go_wp2_with fail
 generalize w4.alloc (.cells #[.slice la4 ln4 lc4,.slice sa4 sn4 sc4,.slice oa4 on4 oc4] 52)=W4 at *
 replace C4:=C4.below hA4
 replace A4:=A4.below hA4
 replace Z4:=chain Z4 hA4
 replace P4:=P4.below hA4
 replace hB4:=chain hB4 hA4
 clear hA4
 refine (qi W4 _ P4.at (hG.below hB4)).mono ?_
 rintro e w5 ⟨⟨v5,rfl,M5⟩,hB5⟩
 obtain ⟨ea5,en5,ec5,va5,vn5,vc5,ra5,rn5,rc5,fa5,fn5,fc5,vr5,rfl,_⟩:=M5.out
 have C5:=C4.below hB5
 have A5:=A4.below hB5
 have X5:=X4.below hB5
 have Z5:=chain Z4 hB5
 have P5:=P4.below hB5
 have hz5:=hB5.size
 replace hB5:=chain hB4 hB5
 have hsz:Hid (w.heap.size<w3.heap.size∧W3.heap.size=w3.heap.size+1∧W3.heap.size<=w4.heap.size∧W4.heap.size=w4.heap.size+1∧W4.heap.size<=w5.heap.size∧b3=w3.heap.size):=⟨hlt3.out,hs3H.out,hz4,hs4.out,hz5,hb3H.out⟩
 clear C4 A4 X4 Z4 P4 hB4
 have hA5:Below w5.heap.size w5 (w5.alloc (.cells #[.int .i64 p.size,.int .i64 p.next,.slice ea5 en5 ec5,.slice va5 vn5 vc5,.slice ra5 rn5 rc5,.slice fa5 fn5 fc5] 26)):=(Below.refl _ _).alloc (Nat.le_refl _) _
 obtain ⟨b5,hb50⟩:∃ b,b=w5.heap.size:=⟨_,rfl⟩
 have G5:Blk (w5.alloc (.cells #[.int .i64 p.size,.int .i64 p.next,.slice ea5 en5 ec5,.slice va5 vn5 vc5,.slice ra5 rn5 rc5,.slice fa5 fn5 fc5] 26)) b5 #[.int .i64 p.size,.int .i64 p.next,.slice ea5 en5 ec5,.slice va5 vn5 vc5,.slice ra5 rn5 rc5,.slice fa5 fn5 fc5] 26:=Blk.new' _ _ _ _ hb50
 have hb5H:Hid (b5=w5.heap.size):=hb50
 obtain ⟨x0,x1,x2,x3,x4,x5⟩:=(A5.below hA5).sixM
 obtain ⟨y0,y1,y2,y3,y4,y5⟩:=G5.sixM
 go_wp2_with fail
 rw [<-hb50]
 clear hb50
 generalize w5.alloc (.cells #[.int .i64 p.size,.int .i64 p.next,.slice ea5 en5 ec5,.slice va5 vn5 vc5,.slice ra5 rn5 rc5,.slice fa5 fn5 fc5] 26)=W5 at *
 replace C5:=C5.below hA5
 replace A5:=A5.below hA5
 replace X5:=X5.below hA5
 replace Z5:=chain Z5 hA5
 replace P5:=P5.below hA5
 have hz5':=hA5.size
 have V5:Below w5.heap.size w5 W5:=hA5
 replace hB5:=chain hB5 hA5
 clear hA5
 refine (ci_ 0 0 _ _ p W5 ((M5.below V5).at.mono (Nat.zero_le _)) ((M3.below Z5).at.mono (Nat.zero_le _)) hK.small).mono ?_
 rintro e w6 ⟨rfl,hB6⟩
 clear x0 x1 x2 x3 x4 x5 y0 y1 y2 y3 y4 y5
 have C6:=(C5.below hB6).drew
 have A6:=(A5.below hB6).drew
 have X6:=(X5.below hB6).drew
 have G6:=(G5.below hB6).drew
 have hd6:Below w6.heap.size w6 w6.drew:=(Below.refl _ _).drew
 have P6:=(P5.below hB6).below hd6
 have V6:=chain (chain V5 hB6) hd6
 have Z6:=chain (chain Z5 hB6) hd6
 have hz6:=hB6.size
 replace hB6:Below w.heap.size w w6.drew:=(chain hB5 hB6).drew
 clear C5 A5 X5 G5 P5 Z5 V5 hB5
 obtain ⟨d0,d1,d2⟩:=C6.three
 obtain ⟨x0,x1,x2⟩:=X6.three
 go_wp2_with fail
 go_region_with (first
  |(go_at_call 24;refine (e4_ _ _ d d _ (P6.below hB7).at.l P7.at.l hl hl).mono ?_;rintro e w8 ⟨rfl,hB8⟩;rw [hee])
  |(go_at_call 22;refine (bL_ _ d _ (h.below hB6) hs).mono ?_;rintro e w7 ⟨⟨v7,rfl,P7⟩,hB7⟩;obtain ⟨la7,ln7,lc7,sa7,sn7,sc7,oa7,on7,oc7,rfl⟩:=P7.at.l.cells;obtain ⟨y0,y1,y2⟩:=(X6.below hB7).three))
 all_goals
  have hC8:=chain hB7 hB8
  have hz8:=hC8.size
  clear d0 d1 d2 x0 x1 x2 y0 y1 y2 P7
  replace C6:=C6.below hC8
  replace A6:=A6.below hC8
  replace X6:=X6.below hC8
  replace G6:=G6.below hC8
  replace P6:=P6.below hC8
  replace V6:=chain V6 hC8
  replace Z6:=chain Z6 hC8
  replace hB6:=chain hB6 hC8
  clear hB7 hB8 hC8
  have hz6':w6.heap.size<=w8.heap.size:=hz8
  clear hz8
  obtain ⟨x0,x1,x2⟩:=X6.three
  go_wp2_with fail
  refine (gP_ _ _ _ d w8 P6 I4 (by have:=hsz.out;omega) hl).mono ?_
  rintro e w9 ⟨rfl,_,F9⟩
  have C9:=F9.blk C6 (.inl (by have:=hsz.out;have:=Z6.size;omega))
  have A9:=F9.blk A6 (.inl (by have:=hsz.out;omega))
  have G9:=F9.blk G6 (.inr (by have:=hsz.out;have:=hb5H.out;omega))
  have hf9:FrD (W3.heap.size+1) w4.heap.size w5 w9:=(FrD.of V6).trans F9
  have M9:=M5.frd hf9 (by have:=hsz.out;omega)
  have N9:=M5.frd hf9.cut (by have:=hsz.out;omega)
  have hct:(cutW w5.heap.size w9).heap.size=w5.heap.size:=dx_ hf9.size
  have V9:Below (cutW w5.heap.size w9).heap.size (cutW w5.heap.size w9) w9:=k3_ hf9.size
  have Z9:Below W3.heap.size W3 w9:=Z6.trans (F9.low (by omega) Z6.size)
  have hz9:=F9.size
  have hB9:Below w.heap.size w w9:=hB6.trans (F9.low (by have:=hsz.out;have:=C6.lt;omega) (by have:=hsz.out;have:=hB6.size;omega))
  clear C6 A6 X6 G6 Z6 P6 F9 hB6 x0 x1 x2 hf9 V6
  obtain ⟨KM,hKM⟩:∃ KM:Int,KM=((markN d:Nat):Int):=⟨_,rfl⟩
  rw [<-hKM]
  have hKM0:¬ KM<0:=by omega
  clear hKM
  obtain ⟨x0,x1,x2,x3,x4,x5⟩:=A9.sixM
  obtain ⟨y0,y1,y2,y3,y4,y5⟩:=G9.sixM
  go_wp2_with fail
  refine (ci_ 0 0 _ _ p w9 (M9.at.mono (Nat.zero_le _)) ((M3.below Z9).at.mono (Nat.zero_le _)) hK.small).mono ?_
  rintro e w10 ⟨rfl,hB10⟩
  clear x0 x1 x2 x3 x4 x5 y0 y1 y2 y3 y4 y5
  have C10:=C9.below hB10
  have A10:=A9.below hB10
  have G10:=G9.below hB10
  have V10:=chain V9 hB10
  have Z10:=chain Z9 hB10
  replace hB10:=chain hB9 hB10
  clear C9 A9 G9 M9 Z9 V9 hB9
  obtain ⟨y0,y1,y2,y3,y4,y5⟩:=G10.sixM
  have qm:=go_ W4.heap.size _ p _ w10 N9 V10 hK (by rw [hct];have:=hsz.out;omega) b5 _ _ G10 (by rw [hct];have:=hb5H.out;omega)
  go_wp2_with fail
  refine qm.mono ?_
  rintro e w11 ⟨⟨k,rfl,MK,hk⟩,hb11,G11⟩
  clear qm y0 y1 y2 y3 y4 y5 G10 N9 V10 hct
  have C11:=C10.lo hb11 (by have:=hsz.out;omega)
  have A11:=A10.lo hb11 (by have:=hsz.out;omega)
  have Z11:Below W3.heap.size W3 w11:=Z10.trans (hb11.mono (by have:=hsz.out;omega))
  have hB11:Below w.heap.size w w11:=hB10.trans (hb11.mono (by have:=hsz.out;omega))
  clear hb11 C10 A10 Z10 hB10
  have hkk:(((k:Nat):Int) != ((k:Nat):Int))=false:=by simp
  have hk0:¬ ((k:Nat):Int)<0:=by omega
  obtain ⟨y0,y1,y2,y3,y4,y5⟩:=G11.sixM
  go_wp2_with fail
  refine (di_ _ k w11 MK).mono ?_
  rintro e w12 ⟨rfl,hB12⟩
  clear y0 y1 y2 y3 y4 y5
  have C12:=C11.below hB12
  have A12:=A11.below hB12
  have G12:=G11.below hB12
  replace MK:=MK.below hB12
  have Z12:=chain Z11 hB12
  replace hB12:=chain hB11 hB12
  clear C11 A11 G11 Z11 hB11
  obtain ⟨d0,d1,d2⟩:=C12.three
  go_wp2_with fail
  refine (bL_ _ d _ (h.below hB12) hs).mono ?_
  rintro e w13 ⟨⟨v13,rfl,P13⟩,hB13⟩
  have A13:=A12.below hB13
  have G13:=G12.below hB13
  replace MK:=MK.below hB13
  have Z13:=chain Z12 hB13
  replace hB13:=chain hB12 hB13
  clear C12 A12 G12 Z12 hB12 d0 d1 d2
  go_wp2_with fail
  refine (qi w13 _ P13.at (hG.below hB13)).mono ?_
  rintro e w14 ⟨⟨v14,rfl,M14⟩,hB14⟩
  obtain ⟨ea7,en7,ec7,va7,vn7,vc7,ra7,rn7,rc7,fa7,fn7,fc7,vr7,rfl,_⟩:=M14.out
  have hA14:Below w14.heap.size w14 (w14.alloc (.cells #[.int .i64 p.size,.int .i64 p.next,.slice ea7 en7 ec7,.slice va7 vn7 vc7,.slice ra7 rn7 rc7,.slice fa7 fn7 fc7] 26)):=(Below.refl _ _).alloc (Nat.le_refl _) _
  obtain ⟨b7,hb70⟩:∃ b,b=w14.heap.size:=⟨_,rfl⟩
  have H14:Blk (w14.alloc (.cells #[.int .i64 p.size,.int .i64 p.next,.slice ea7 en7 ec7,.slice va7 vn7 vc7,.slice ra7 rn7 rc7,.slice fa7 fn7 fc7] 26)) b7 #[.int .i64 p.size,.int .i64 p.next,.slice ea7 en7 ec7,.slice va7 vn7 vc7,.slice ra7 rn7 rc7,.slice fa7 fn7 fc7] 26:=Blk.new' _ _ _ _ hb70
  have hC14:=chain hB14 hA14
  have A14:=A13.below hC14
  have G14:=G13.below hC14
  replace MK:=MK.below hC14
  have Z14:=chain Z13 hC14
  replace M14:=M14.below hA14
  replace hB14:=chain hB13 hC14
  clear A13 G13 Z13 hB13 hC14 P13 hA14
  obtain ⟨x0,x1,x2,x3,x4,x5⟩:=A14.sixM
  obtain ⟨y0,y1,y2,y3,y4,y5⟩:=H14.sixM
  go_wp2_with fail
  rw [<-hb70]
  clear hb70
  generalize w14.alloc (.cells #[.int .i64 p.size,.int .i64 p.next,.slice ea7 en7 ec7,.slice va7 vn7 vc7,.slice ra7 rn7 rc7,.slice fa7 fn7 fc7] 26)=W14 at *
  refine (ci_ 0 0 _ _ p W14 (M14.at.mono (Nat.zero_le _)) ((M3.below Z14).at.mono (Nat.zero_le _)) hK.small).mono ?_
  rintro e w15 ⟨rfl,hB15⟩
  clear x0 x1 x2 x3 x4 x5 y0 y1 y2 y3 y4 y5
  have G15:=G14.below hB15
  replace MK:=MK.below hB15
  replace hB15:=chain hB14 hB15
  clear A14 G14 Z14 hB14 H14 M14
  obtain ⟨y0,y1,y2,y3,y4,y5⟩:=G15.sixM
  go_wp2_with fail
  refine (di_ _ k w15 MK).mono ?_
  rintro e w16 ⟨rfl,hB16⟩
  replace hB16:=chain hB15 hB16
  clear G15 hB15 y0 y1 y2 y3 y4 y5
  go_wp2
  go_returns
  exact ⟨rfl,hB16⟩
end Go.Proofs.YtigldeccfpkdmaaGreatDoor
namespace Go.Proofs.YtigldeccfpkdmaaGreatDoor
open Go.ChangeShapes Go.WideShapes Go.ChangeAt Go.RowKit Go.Deep Go.Joins
open Go.ChangeMaps (open_string shut_string)
set_option maxHeartbeats 20000000
set_option maxRecDepth 100000
theorem liftedCommitted (os:Os) (started:os.Started) (H:Type) (enc:TypeId×Value->H) :
  ReturnsInHanded {} Tryz.checked os 6 .any (fun w args=>(Rows.fnExactCommittedSpec.pre enc Tryz.prog Tryz.f6 [] false w args∧laidMetH Tryz.prog Rows.fnExactCommittedRow.laid w)∧sizedMet enc Tryz.prog Tryz.f6 (OpenSpec.ofChange Rows.fnExactCommittedSpec) false w args)
   (Rows.fnExactCommittedSpec.post enc Tryz.prog Tryz.f6 false true false false):=by
 refine bN_ (C:=Tryz.checked) (X:=fun w _=>laidMetH Tryz.prog Rows.fnExactCommittedRow.laid w) (fun _ _ _ hh h=>h.of_heap hh) own started (by kernel_rfl) Tryz.func6
  (ChangeSpec.witness_shaped (enc:=enc) (C:=Tryz.checked) (os:=os) (X:=fun w _=>laidMetH Tryz.prog Rows.fnExactCommittedRow.laid w) false (World.laidAll Tryz.prog os Rows.fnExactCommittedRow.laid) #[.agg #[.slice none 0 0,.slice none 0 0,.slice none 0 0]] 8 (World.laidAll_os _ _ _)
   (World.shaped_of_ZipB (by kernel_rfl) (by kernel_rfl)) (by kernel_rfl) (by kernel_rfl) (by kernel_rfl)
   (by rw [MakeChecks.laidMetH_plain _ _ _ (by kernel_rfl)];exact laidMet_laidAll _ (by kernel_rfl) (by kernel_rfl))) ?_
 intro W base args ds gs before hval0 hW hL hsh
 have hval:∀ (j:Nat) t v,Tryz.f6.params[j]?=some t->args[j]?=some v->Value.okWide Tryz.prog W .any base t v:=hval0
 have hW':=hW
 obtain ⟨p,q,hA0,hV0,rfl,_,_⟩:=hW
 have hA:DataW.TrodAll enc Tryz.prog W 0 (fun _=>true) true Tryz.f6.params.toList args.toList ds p:=hA0
 have hV:DataW.TrodVars enc Tryz.prog W (fun _=>true) ["loop.example/g00336/impl.errText"] gs q:=hV0
 rw [Tryz.params6] at hA hval
 obtain ⟨v0,vs0,d0,ds0,p0,q0,hargs,rfl,rfl,h0,r0⟩:=trodAll_cons hA
 obtain ⟨rfl,rfl,rfl⟩:=trodAll_nil r0
 obtain rfl:args=#[v0]:=by cases args;simp_all
 obtain ⟨hG,a,hv⟩:=io_ hL hsh
 obtain ⟨rfl,rfl⟩:=hV.unique (vars_read1 enc gErrR gErrTR iface75R hv trivial _)
 clear hA0 hV0 hval0
 simp only [List.append_nil] at hW'
 have hlt:∀ x∈p0,x.block<W.heap.size:=fun x hx=>by simpa using hW'.lt x (by simp [hx])
 obtain ⟨q,hP,hb⟩:=hE_ (hval 0 46 v0 rfl rfl) h0
 refine (walkCommitted v0 q W hP hb hG).mono fun e W' ⟨he,hB⟩=>?_
 subst he
 have hargs:DataW.Trod enc Tryz.prog W' 0 (fun b=>decide (b<W.heap.size)) true 46 v0 d0 p0:=
  Below.trod laidOut (by kernel_rfl) (of_decide_eq_true (by kernel_rfl)) h0 hB hlt
 exact ⟨_,rfl,⟨_,_,_,[],_,[.cell 0 0],hW',trodAll_mk1 (shut_bool Tryz.underlying4 _),trodAll_mk1 hargs,vars_read1 enc gErrR gErrTR iface75R (gk_ hv hB hG.sz) trivial _,hB.frame _,fun h=>by cases h⟩⟩
theorem holdsCommitted:Rows.FnExactCommittedSaid:=
 OpenClaim.holds_of_wide 6 Tryz.f6 rfl rfl rfl rfl rfl rfl rfl ⟨rfl,rfl,rfl,rfl,rfl⟩ rfl rfl rfl rfl rfl (by kernel_rfl) Tryz.func6 (gW_ (by kernel_rfl) (by kernel_rfl) (by kernel_rfl) (by kernel_rfl) rfl rfl rfl (by kernel_rfl))
  (of_decide_eq_true (by kernel_rfl)) (by unfold Func.isWrapper;first | (rw [if_pos (by decide +kernel)];kernel_rfl) | (rw [if_neg (by decide +kernel)];exact ⟨rfl,rfl⟩))
  (fun os started H enc _=>liftedCommitted os started H enc)
end Go.Proofs.YtigldeccfpkdmaaGreatDoor
