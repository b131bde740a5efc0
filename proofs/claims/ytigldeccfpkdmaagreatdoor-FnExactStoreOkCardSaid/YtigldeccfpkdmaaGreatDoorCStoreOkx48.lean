/- StoreOk by both: the row. -/
import Derived.Test.YtigldeccfpkdmaaGreatDoorK04
import Derived.Test.YtigldeccfpkdmaaGreatDoorK00
import Derived.Test.YtigldeccfpkdmaaGreatDoorK03
import Derived.Test.YtigldeccfpkdmaaGreatDoorK06
import Derived.Test.YtigldeccfpkdmaaGreatDoorK07
import Derived.Test.YtigldeccfpkdmaaGreatDoorK02
import Derived.Test.YtigldeccfpkdmaaGreatDoorK05
import Derived.Maps.AppendAt
import Derived.Test.YtigldeccfpkdmaaGreatDoorK22
import Derived.Test.YtigldeccfpkdmaaGreatDoorK23
import Derived.Test.YtigldeccfpkdmaaGreatDoorK24
import Derived.Test.YtigldeccfpkdmaaGreatDoorK25
import Derived.Test.YtigldeccfpkdmaaGreatDoorK26
import Derived.Test.YtigldeccfpkdmaaGreatDoorK27
import Derived.Lib.SliceRun
import Derived.Test.YtigldeccfpkdmaaGreatDoorK28
import Derived.Test.YtigldeccfpkdmaaGreatDoorK29
import Derived.Test.YtigldeccfpkdmaaGreatDoorK30
import Derived.Test.YtigldeccfpkdmaaGreatDoorK31
import Derived.Test.YtigldeccfpkdmaaGreatDoorK43
import Derived.Test.YtigldeccfpkdmaaGreatDoorK32
import Derived.Test.YtigldeccfpkdmaaGreatDoorProg
import Derived.Lib.SmallJoins
import Derived.Test.YtigldeccfpkdmaaGreatDoorK14
import Derived.Test.YtigldeccfpkdmaaGreatDoorK10
import Derived.Test.YtigldeccfpkdmaaGreatDoorK11
import Derived.Test.YtigldeccfpkdmaaGreatDoorK12
import Derived.Test.YtigldeccfpkdmaaGreatDoorK35
import Derived.Test.YtigldeccfpkdmaaGreatDoorK36
import Derived.Test.YtigldeccfpkdmaaGreatDoorK37
import Derived.Test.YtigldeccfpkdmaaGreatDoorK38
import Derived.Test.YtigldeccfpkdmaaGreatDoorK16
import Derived.Test.YtigldeccfpkdmaaGreatDoorK01
import Derived.Test.YtigldeccfpkdmaaGreatDoorK33
import Derived.Test.YtigldeccfpkdmaaGreatDoorK34
import Derived.Test.YtigldeccfpkdmaaGreatDoorK39
import Derived.Test.YtigldeccfpkdmaaGreatDoorK40
import Derived.Test.YtigldeccfpkdmaaGreatDoorK41
import Derived.Test.YtigldeccfpkdmaaGreatDoorK42
import Derived.Test.YtigldeccfpkdmaaGreatDoorK44
import Derived.Test.YtigldeccfpkdmaaGreatDoorK17
import Derived.Test.YtigldeccfpkdmaaGreatDoorK13
import Derived.Test.YtigldeccfpkdmaaGreatDoorK09
import Derived.Test.YtigldeccfpkdmaaGreatDoorK20
import Derived.Test.YtigldeccfpkdmaaGreatDoorK21
import Derived.Test.YtigldeccfpkdmaaGreatDoorK08
import Derived.Test.YtigldeccfpkdmaaGreatDoorK15
import Derived.Test.YtigldeccfpkdmaaGreatDoorK18
import Derived.Test.YtigldeccfpkdmaaGreatDoorK19
import Derived.Deep.RegionLaw
import Derived.Laws.AppendOwnNone
import Derived.WalkKit
import Derived.ProofKit
import Derived.OpenShut
import Derived.Handy
import Derived.Deep.Light
import Derived.Deep.RegionHeld3
import Derived.Deep.QuietTactic
import Derived.BigQuiet
import Derived.WalkSmall
import Derived.Laws.Cover1
import Derived.Laws.StructEq
import Derived.OrdersHeld
import Derived.StillTail
import Derived.RangeFuncNested
import Derived.RangeFuncBound
import Derived.RangeFuncCalls
import Derived.RangeFuncLeaves
import Derived.RangeFuncBox
import Derived.Shelf.Abstract
import Derived.Shelf.RegionOpen
import Derived.OwnWalkIn
import Derived.TacticsInMore
import Derived.LoopNIn
import Derived.LoopIn
import Derived.RangeFuncFrom
import Derived.Lib.AppendZerosOnto
import Derived.Lib.Overlaps
import Derived.Laws.CopyOwn
import Derived.Laws.NewBlocks
import Derived.Test.YtigldeccfpkdmaaGreatDoorCStoreOkx47
import Derived.Laws.BytesArg
import Derived.Test.YtigldeccfpkdmaaGreatDoorCStoreOkx45
import Derived.StillTailTactics
import Derived.Lib.Strings
import Derived.Deep.DeepCutAuto
import Derived.Lib.AtoiTie
import Derived.Lib.ParseIntBTie
import Derived.Lib.Split
import Derived.Lib.Atoi
import Derived.Defers
import Derived.Recover
import Derived.Maps.RangeWalk
import Derived.Maps.Views
import Derived.WideKeyEntry
import Derived.DeepKeys4
import Derived.Shelf.Strings.Cut
import Derived.Shelf.Strconv.Itoa4
import Derived.Shelf.Strings.Prefix
import Derived.Shelf.Strings.OnBuilder
import Derived.Shelf.SlSortCmp.NoneTotal
import Derived.Shelf.Strconv.ErrVarParseInt
import Derived.Shelf.Small.Strs
import Derived.Shelf.Strings.SplitShaped
import Derived.Lib.AppendStr
import Derived.Laws.Strings2
import Derived.Shelf.Strings.BuilderK
import Derived.Lib.AppendIntMem
import Derived.Lib.ItoaNum
import Derived.Laws.Closers25b
import Derived.Laws.BitsLemmas
import Derived.Maps.OwnSet
import Derived.Test.YtigldeccfpkdmaaGreatDoorRows
import Derived.ChangeSame
import Derived.ChangeVars
import Derived.ChangeMaps5
import Derived.JoinedOf
import Derived.RowKitTokens
import Derived.LaidLaws
import Derived.LaidHandle
import Derived.Lay
import Derived.MakeChecks
import Derived.Stop.LaidErr
import Derived.Lib.LaidTab
namespace Go.Proofs.YtigldeccfpkdmaaGreatDoor
open Go Go.RowKit Go.BigFrame
set_option maxHeartbeats 20000000
set_option maxRecDepth 100000
def bareB (p:Po):Bool:=p.size==0&&p.next==0&&(p.ex.length+p.vs.length+p.rf.length+p.lt.length==0)
/-- A store that is right. -/
noncomputable def storeB (s:Sr):Bool:=diskB s.d&&(if bareB s.p=true then s.m==0 else (comO s.d).isSome&&poolB s.p&&s.m==(comO s.d).elim 0 (·.1))
theorem ki_ (B:Nat) (v:Value) (p:Po) (w:World) (h:PoolAt B w v p) (hs:SmallP p) :
  Calls Tryz.prog 86 #[v] w fun e w'=>e=.returned (.bool (bareB p))∧Below w.heap.size w w':=by
 obtain ⟨ea,en,ec,va,vn,vc,ra,rn,rc,la,ln,lc,rfl,⟨h1,k1⟩,⟨h2,k2⟩,⟨h3,k3⟩,h4,k4⟩:=h
 obtain ⟨d1,d2,_,d4,d5⟩:=hs.dims
 have hb:bareB p=(p.size==0&&p.next==0&&(en+vn+rn+ln==0)):=by rw [bareB,h1.len,h2.len,h3.len,h4.len]
 rw [hb]
 rw [h1.len] at d1
 rw [h2.len] at d2
 rw [h3.len] at d4
 rw [h4.len] at d5
 generalize p.size=s
 generalize p.next=n
 clear h1 h2 h3 h4 k1 k2 k3 k4 hb hs
 by_cases a:s=0
 ·by_cases b:n=0
  ·subst a b
   by_cases c:en+vn+rn+ln=0
   ·obtain ⟨rfl,rfl,rfl,rfl⟩:en=0∧vn=0∧rn=0∧ln=0:=by omega
    go_enter Tryz.func86,Tryz.ntmps86
    go_wp2
    go_returns
    exact ⟨rfl,by go_grown⟩
   ·have c':(((en:Int)+vn+rn+ln)==0)=false:=by simp;omega
    have c2:(en+vn+rn+ln==0)=false:=by simp;omega
    go_enter Tryz.func86,Tryz.ntmps86
    go_wp2
    go_returns
    exact ⟨by rw [c2];rfl,by go_grown⟩
  ·have a':(s==0)=true:=by simpa using a
   have b':(n==0)=false:=by simpa using b
   go_enter Tryz.func86,Tryz.ntmps86
   go_wp2
   go_returns
   exact ⟨by simp [b'],by go_grown⟩
 ·have a':(s==0)=false:=by simpa using a
  go_enter Tryz.func86,Tryz.ntmps86
  go_wp2
  go_returns
  exact ⟨by simp [a'],by go_grown⟩
theorem kj_ (B:Nat) (v0 v1 v2 x2 x3 x4 x5:Value) (m:Int) (p:Po) (w:World) (h:PoolAt B w (.agg #[.int .i64 p.size,.int .i64 p.next,x2,x3,x4,x5]) p) :
  Calls Tryz.prog 88 #[.agg #[v0,v1,v2,.int .i64 p.size,.int .i64 p.next,x2,x3,x4,x5,.int .i64 m]] w fun e w'=>e=.returned (.bool (bareB p))∧Below w.heap.size w w':=by
 obtain ⟨ea,en,ec,va,vn,vc,ra,rn,rc,la,ln,lc,hv,⟨h1,k1⟩,⟨h2,k2⟩,⟨h3,k3⟩,h4,k4⟩:=h
 simp only [Value.agg.injEq,Array.mk.injEq,List.cons.injEq,and_true,true_and] at hv
 obtain ⟨rfl,rfl,rfl,rfl⟩:=hv
 have hb:bareB p=(p.size==0&&p.next==0&&(en+vn+rn+ln==0)):=by rw [bareB,h1.len,h2.len,h3.len,h4.len]
 rw [hb]
 generalize p.size=s
 generalize p.next=n
 clear h1 h2 h3 h4 k1 k2 k3 k4 hb
 go_enter Tryz.func88,Tryz.ntmps88
 go_wp2
 all_goals go_returns
 all_goals refine ⟨ab_ ?_,by go_grown⟩
 all_goals (rw [Bool.eq_iff_iff];simp;try omega)
theorem od_ (d:Dk) (m:Int) (q:Bool):(q&&(accC d 3).1==m&&decide (0<=(accC d 3).1))=((comO d).isSome&&q&&m==(comO d).elim 0 (·.1)):=by
 unfold comO
 by_cases h:(accC d 3).1<0
 ·rw [if_pos h]
  simp;intros;omega
 ·rw [if_neg h,Bool.eq_iff_iff]
  simp
  constructor
  ·rintro ⟨⟨a,b⟩,_⟩;exact ⟨a,b.symm⟩
  ·rintro ⟨a,b⟩;exact ⟨⟨a,b.symm⟩,by omega⟩
theorem iA_ (B:Nat) (hB:0<B) (v:Value) (s:Sr) (w:World) (h:StW B w v s) (hd:SmallDk s.d) (hp:SmallP s.p) :
  Calls Tryz.prog 32 #[v] w fun e w'=>e=.returned (.bool (storeB s))∧Below w.heap.size w w':=by
 have hE:Hid (storeB s=(diskB s.d&&(if bareB s.p=true then s.m==0 else (poolB s.p&&(accC s.d 3).1==s.m&&decide (0<=(accC s.d 3).1))))):=by show _=_;rw [od_];rfl
 generalize storeB s=R at *
 obtain ⟨d,p,m⟩:=s
 obtain ⟨la,ln,lc,sa,sn,sc,oa,on,oc,ea,en,ec,va,vn,vc,ra,rn,rc,ta,tn,tc,rfl,hD,hP⟩:=h
 simp only at *
 have hdd:=hd.dim
 have hpd:=hp.dim
 have hz:=hd.rd
 have C:=Blk.new w #[.slice la ln lc,.slice sa sn sc,.slice oa on oc,.int .i64 p.size,.int .i64 p.next,.slice ea en ec,.slice va vn vc,.slice ra rn rc,.slice ta tn tc,.int .i64 m] 58
 have hB0:Below w.heap.size w (w.alloc (.cells #[.slice la ln lc,.slice sa sn sc,.slice oa on oc,.int .i64 p.size,.int .i64 p.next,.slice ea en ec,.slice va vn vc,.slice ra rn rc,.slice ta tn tc,.int .i64 m] 58)):=by go_grown
 go_enter Tryz.func32,Tryz.ntmps32
 go_wp2_with fail
 generalize w.alloc (.cells #[.slice la ln lc,.slice sa sn sc,.slice oa on oc,.int .i64 p.size,.int .i64 p.next,.slice ea en ec,.slice va vn vc,.slice ra rn rc,.slice ta tn tc,.int .i64 m] 58)=W0 at *
 refine (e1_ _ d W0 (hD.below hB0).at hdd).mono ?_
 rintro e w1 ⟨rfl,hB1⟩
 have C1:=C.below hB1
 replace hB1:=chain hB0 hB1
 clear C hB0
 cases hdb:diskB d with
 |false=>
  go_wp2
  go_returns
  exact ⟨ab_ (by rw [hE.out,hdb];rfl),hB1⟩
 |true=>
  obtain ⟨⟨c0,c1,c2,c3,c4,c5,c6,c7,c8,c9⟩,-⟩:=aB_ C1
  go_wp2_with fail
  refine (ki_ B _ p w1 (hP.below hB1) hp).mono ?_
  rintro e w2 ⟨rfl,hB2⟩
  clear c0 c1 c2 c3 c4 c5 c6 c7 c8 c9
  have C2:=C1.below hB2
  replace hB2:=chain hB1 hB2
  clear C1 hB1
  obtain ⟨⟨c0,c1,c2,c3,c4,c5,c6,c7,c8,c9⟩,-⟩:=aB_ C2
  cases hbb:bareB p with
  |true=>
   go_wp2
   go_returns
   exact ⟨ab_ (by rw [hE.out,hdb,hbb];rfl),hB2⟩
  |false=>
   have hw2:0<w2.heap.size:=by have:=C2.lt;omega
   have qb:=e9_ _ d w2 (hD.below hB2).at hdd hdb hz hw2
   have hEn:Hid (R=(poolB p&&(accC d 3).1==m&&decide (0<=(accC d 3).1))):=by show _=_;rw [hE.out,hdb,hbb];rfl
   clear hE
   generalize accC d 3=a at *
   obtain ⟨b,p0⟩:=a
   simp only at qb hEn
   go_wp2_with fail
   refine qb.mono ?_
   rintro e w3 ⟨⟨v3,rfl,M0⟩,hB3⟩
   obtain ⟨ea0,en0,ec0,va0,vn0,vc0,ra0,rn0,rc0,la0,ln0,lc0,vr1,rfl,_⟩:=M0.out
   clear c0 c1 c2 c3 c4 c5 c6 c7 c8 c9
   have C3:=C2.below hB3
   replace hB3:=chain hB2 hB3
   clear C2 hB2 M0 qb
   have hA3:Below w3.heap.size w3 (w3.alloc (.cells #[.int .i64 p0.size,.int .i64 p0.next,.slice ea0 en0 ec0,.slice va0 vn0 vc0,.slice ra0 rn0 rc0,.slice la0 ln0 lc0] 26)):=(Below.refl _ _).alloc (Nat.le_refl _) _
   obtain ⟨⟨c0,c1,c2,c3,c4,c5,c6,c7,c8,c9⟩,-⟩:=aB_ (C3.below hA3)
   go_wp2_with fail
   clear c0 c1 c2 c3 c4 c5 c6 c7 c8 c9
   replace C3:=C3.below hA3
   replace hB3:=chain hB3 hA3
   generalize w3.alloc (.cells #[.int .i64 p0.size,.int .i64 p0.next,.slice ea0 en0 ec0,.slice va0 vn0 vc0,.slice ra0 rn0 rc0,.slice la0 ln0 lc0] 26)=W3 at *
   clear hA3
   refine (bJ_ B hB _ p W3 (hP.below hB3) hpd).mono ?_
   rintro e w4 ⟨rfl,hB4⟩
   have c9:=(C3.below hB4).cell 9
   simp only [lgA,lgB,lgC] at c9
   replace hB4:=chain hB3 hB4
   clear C3 hB3
   generalize poolB p=q at *
   cases q<;>go_wp2
   all_goals go_returns
   all_goals refine ⟨ab_ ?_,hB4⟩
   all_goals (rw [hEn.out,Bool.eq_iff_iff];simp;try omega)
theorem iB_ (B:Nat) (v:Value) (s:Sr) (w:World) (h:StW B w v s) (hd:SmallDk s.d) (hp:SmallP s.p) (hG:Glb w) :
  Calls Tryz.prog 34 #[v] w fun e w'=>e=.returned (.bool (storeB s))∧Below w.heap.size w w':=by
 have hE:Hid (storeB s=(diskB s.d&&(if bareB s.p=true then s.m==0 else (comO s.d).isSome&&poolB s.p&&s.m==(comO s.d).elim 0 (·.1)))):=rfl
 generalize storeB s=R at *
 obtain ⟨d,p,m⟩:=s
 obtain ⟨la,ln,lc,sa,sn,sc,oa,on,oc,ea,en,ec,va,vn,vc,ra,rn,rc,ta,tn,tc,rfl,hD,hP⟩:=h
 simp only at *
 have hdd:=hd.dim
 have hpd:=hp.dim
 have hz:=hd.rd
 have C:=Blk.new w #[.slice la ln lc,.slice sa sn sc,.slice oa on oc,.int .i64 p.size,.int .i64 p.next,.slice ea en ec,.slice va vn vc,.slice ra rn rc,.slice ta tn tc,.int .i64 m] 58
 have hB0:Below w.heap.size w (w.alloc (.cells #[.slice la ln lc,.slice sa sn sc,.slice oa on oc,.int .i64 p.size,.int .i64 p.next,.slice ea en ec,.slice va vn vc,.slice ra rn rc,.slice ta tn tc,.int .i64 m] 58)):=by go_grown
 go_enter Tryz.func34,Tryz.ntmps34
 go_wp2_with fail
 generalize w.alloc (.cells #[.slice la ln lc,.slice sa sn sc,.slice oa on oc,.int .i64 p.size,.int .i64 p.next,.slice ea en ec,.slice va vn vc,.slice ra rn rc,.slice ta tn tc,.int .i64 m] 58)=W0 at *
 refine (e2_ _ d W0 (hD.below hB0).at hdd).mono ?_
 rintro e w1 ⟨rfl,hB1⟩
 have C1:=C.below hB1
 replace hB1:=chain hB0 hB1
 clear C hB0
 cases hdb:diskB d with
 |false=>
  go_wp2
  go_returns
  exact ⟨ab_ (by rw [hE.out,hdb];rfl),hB1⟩
 |true=>
  obtain ⟨⟨c0,c1,c2,c3,c4,c5,c6,c7,c8,c9⟩,-⟩:=aB_ C1
  go_wp2_with fail
  refine (kj_ B _ _ _ _ _ _ _ m p w1 (hP.below hB1)).mono ?_
  rintro e w2 ⟨rfl,hB2⟩
  clear c0 c1 c2 c3 c4 c5 c6 c7 c8 c9
  have C2:=C1.below hB2
  replace hB2:=chain hB1 hB2
  clear C1 hB1
  obtain ⟨⟨c0,c1,c2,c3,c4,c5,c6,c7,c8,c9⟩,-⟩:=aB_ C2
  cases hbb:bareB p with
  |true=>
   go_wp2
   go_returns
   exact ⟨ab_ (by rw [hE.out,hdb,hbb];rfl),hB2⟩
  |false=>
   have qb:=dg_ _ d w2 (hD.below hB2).at hdd hz (hG.below hB2)
   have hEn:Hid (R=((comO d).isSome&&poolB p&&m==(comO d).elim 0 (·.1))):=by show _=_;rw [hE.out,hdb,hbb];rfl
   clear hE
   generalize (comO d).isSome=ok at *
   generalize (comO d).elim 0 (·.1)=b at *
   generalize (comO d).elim emptyP (·.2)=p0 at *
   go_wp2_with fail
   refine qb.mono ?_
   rintro e w3 ⟨⟨v3,rfl,M0⟩,hB3⟩
   obtain ⟨ea0,en0,ec0,va0,vn0,vc0,ra0,rn0,rc0,la0,ln0,lc0,vr1,rfl,_⟩:=M0.out
   clear c0 c1 c2 c3 c4 c5 c6 c7 c8 c9
   have C3:=C2.below hB3
   replace hB3:=chain hB2 hB3
   clear C2 hB2 M0 qb
   have hA3:Below w3.heap.size w3 (w3.alloc (.cells #[.int .i64 p0.size,.int .i64 p0.next,.slice ea0 en0 ec0,.slice va0 vn0 vc0,.slice ra0 rn0 rc0,.slice la0 ln0 lc0] 26)):=(Below.refl _ _).alloc (Nat.le_refl _) _
   replace C3:=C3.below hA3
   replace hB3:=chain hB3 hA3
   have c9:=C3.cell 9
   simp only [lgA,lgB,lgC] at c9
   cases ok with
   |false=>
    go_wp2
    go_returns
    exact ⟨ab_ (by rw [hEn.out];rfl),hB3⟩
   |true=>
    obtain ⟨⟨c0,c1,c2,c3,c4,c5,c6,c7,c8,-⟩,-⟩:=aB_ C3
    go_wp2_with fail
    clear c0 c1 c2 c3 c4 c5 c6 c7 c8 c9
    generalize w3.alloc (.cells #[.int .i64 p0.size,.int .i64 p0.next,.slice ea0 en0 ec0,.slice va0 vn0 vc0,.slice ra0 rn0 rc0,.slice la0 ln0 lc0] 26)=W3 at *
    clear hA3
    refine (cj_ B _ p W3 (hP.below hB3) hpd).mono ?_
    rintro e w4 ⟨rfl,hB4⟩
    have c9:=(C3.below hB4).cell 9
    simp only [lgA,lgB,lgC] at c9
    replace hB4:=chain hB3 hB4
    clear C3 hB3
    generalize poolB p=q at *
    cases q<;>go_wp2
    all_goals go_returns
    all_goals exact ⟨ab_ (by rw [hEn.out];rfl),hB4⟩
theorem walkStoreOk (v:Value) (s:Sr) (w:World) (h:StL w v s) (hb:BigD s.d) (hp:BigP s.p) (hG:Glb w) :
  Calls Tryz.prog 8 #[v] w fun e w'=>e=.returned (.bool true)∧Below w.heap.size w w':=by
 obtain ⟨la,ln,lc,sa,sn,sc,oa,on,oc,ea,en,ec,va,vn,vc,ra,rn,rc,ta,tn,tc,rfl⟩:=h.cells
 have C:=Blk.new w #[.slice la ln lc,.slice sa sn sc,.slice oa on oc,.int .i64 s.p.size,.int .i64 s.p.next,.slice ea en ec,.slice va vn vc,.slice ra rn rc,.slice ta tn tc,.int .i64 s.m] 65
 have hB0:Below w.heap.size w (w.alloc (.cells #[.slice la ln lc,.slice sa sn sc,.slice oa on oc,.int .i64 s.p.size,.int .i64 s.p.next,.slice ea en ec,.slice va vn vc,.slice ra rn rc,.slice ta tn tc,.int .i64 s.m] 65)):=by go_grown
 go_enter Tryz.func8,Tryz.ntmps8
 go_wp2_with fail
 generalize w.alloc (.cells #[.slice la ln lc,.slice sa sn sc,.slice oa on oc,.int .i64 s.p.size,.int .i64 s.p.next,.slice ea en ec,.slice va vn vc,.slice ra rn rc,.slice ta tn tc,.int .i64 s.m] 65)=W0 at *
 refine (iy_ _ s _ (h.below hB0) hb hp).mono ?_
 rintro e w1 ⟨⟨r,rfl,hr⟩,hB1⟩
 have C1:=C.below hB1
 replace hB1:=chain hB0 hB1
 clear C hB0
 rcases hr with rfl | ⟨r0,r1,hd,hs⟩
 ·go_wp2
  go_returns
  exact ⟨rfl,hB1⟩
 have qs:=fun (B:Nat) (h0:0<B) (u:World) (v:Value) (hv:StW B u v s)=>iA_ B h0 v s u hv hd hs
 have qi:=fun (B:Nat) (u:World) (v:Value) (hv:StW B u v s) (hu:Glb u)=>iB_ B v s u hv hd hs hu
 generalize storeB s=R at *
 have hRR:(R != R)=false:=by simp
 have hr':¬ r<0:=by omega
 obtain ⟨⟨c0,c1,c2,c3,c4,c5,c6,c7,c8,c9⟩,-⟩:=aB_ C1
 go_wp2_with fail
 refine (cR_ _ s _ (h.below hB1) hd hs).mono ?_
 rintro e w2 ⟨⟨v2,rfl,P2⟩,hB2⟩
 have C2:=C1.below hB2
 replace hB2:=chain hB1 hB2
 clear c0 c1 c2 c3 c4 c5 c6 c7 c8 c9 C1 hB1
 go_wp2_with fail
 refine (qs _ (by omega) _ v2 P2).mono ?_
 rintro e w3 ⟨rfl,hB3⟩
 have C3:=C2.below hB3
 replace hB3:=chain hB2 hB3
 clear C2 hB2 P2
 obtain ⟨⟨c0,c1,c2,c3,c4,c5,c6,c7,c8,c9⟩,-⟩:=aB_ C3
 go_wp2_with fail
 refine (cR_ _ s _ (h.below hB3) hd hs).mono ?_
 rintro e w4 ⟨⟨v4,rfl,P4⟩,hB4⟩
 have C4:=C3.below hB4
 replace hB4:=chain hB3 hB4
 clear c0 c1 c2 c3 c4 c5 c6 c7 c8 c9 C3 hB3
 obtain ⟨la4,ln4,lc4,sa4,sn4,sc4,oa4,on4,oc4,ea4,en4,ec4,va4,vn4,vc4,ra4,rn4,rc4,ta4,tn4,tc4,rfl⟩:=P4.l.cells
 have X4:=Blk.new w4 #[.slice la4 ln4 lc4,.slice sa4 sn4 sc4,.slice oa4 on4 oc4,.int .i64 s.p.size,.int .i64 s.p.next,.slice ea4 en4 ec4,.slice va4 vn4 vc4,.slice ra4 rn4 rc4,.slice ta4 tn4 tc4,.int .i64 s.m] 58
 have hA4:Below w4.heap.size w4 (w4.alloc (.cells #[.slice la4 ln4 lc4,.slice sa4 sn4 sc4,.slice oa4 on4 oc4,.int .i64 s.p.size,.int .i64 s.p.next,.slice ea4 en4 ec4,.slice va4 vn4 vc4,.slice ra4 rn4 rc4,.slice ta4 tn4 tc4,.int .i64 s.m] 58)):=by go_grown
 go_wp2_with fail
 generalize w4.alloc (.cells #[.slice la4 ln4 lc4,.slice sa4 sn4 sc4,.slice oa4 on4 oc4,.int .i64 s.p.size,.int .i64 s.p.next,.slice ea4 en4 ec4,.slice va4 vn4 vc4,.slice ra4 rn4 rc4,.slice ta4 tn4 tc4,.int .i64 s.m] 58)=W4 at *
 have P5:=P4.below hA4
 have C5:=C4.below hA4
 have hB5:=chain hB4 hA4
 clear C4 hB4 hA4 P4
 refine (qi _ _ _ P5 (hG.below hB5)).mono ?_
 rintro e w5 ⟨rfl,hB6⟩
 have P6:=P5.below hB6
 have C6:=(C5.below hB6).drew
 have X6:=(X4.below hB6).drew
 replace hB6:Below w.heap.size w w5.drew:=(chain hB5 hB6).drew
 clear C5 X4 P5 hB5
 have P6':=P6.below (Below.refl _ _).drew
 obtain ⟨⟨c0,c1,c2,c3,c4,c5,c6,c7,c8,c9⟩,-⟩:=aB_ C6
 obtain ⟨⟨x0,x1,x2,x3,x4,x5,x6,x7,x8,x9⟩,-⟩:=aB_ X6
 go_wp2_with fail
 go_region_with (first
  |(go_at_call 28;refine (iz_ _ _ s _ (P6'.below hB7).l P7.l hd hs).mono ?_;rintro e w8 ⟨rfl,hB8⟩)
  |(go_at_call 33;refine (cR_ _ s _ (h.below hB6) hd hs).mono ?_;rintro e w7 ⟨⟨v7,rfl,P7⟩,hB7⟩;obtain ⟨la7,ln7,lc7,sa7,sn7,sc7,oa7,on7,oc7,ea7,en7,ec7,va7,vn7,vc7,ra7,rn7,rc7,ta7,tn7,tc7,rfl⟩:=P7.l.cells;obtain ⟨⟨y0,y1,y2,y3,y4,y5,y6,y7,y8,y9⟩,-⟩:=aB_ (X6.below hB7)))
 all_goals go_wp2
 all_goals go_returns
 all_goals exact ⟨rfl,chain (chain hB6 hB7) hB8⟩
end Go.Proofs.YtigldeccfpkdmaaGreatDoor
namespace Go.Proofs.YtigldeccfpkdmaaGreatDoor
open Go.ChangeShapes Go.WideShapes Go.ChangeAt Go.RowKit Go.Deep Go.Joins
set_option maxHeartbeats 20000000
set_option maxRecDepth 100000
theorem gv_ {P:Program} {w:World} {r:Reach} {base:Nat} {t u:TypeId} {fs:Array Field} {cs ds:Array Value} {ts us:List TypeId} (k:Nat) (hu:P.underlying u=some (.struct fs)) (ht:P.cellTypes P.depth t=some ts) (hus:P.cellTypes P.depth u=some us)
  (hsz:ds.size=P.cellsOf u) (hl:ds.size=us.length) (hlen:ts.length=cs.size) (hd:∀ i,i<ds.size->ds[i]?=cs[k+i]?∧us[i]?=ts[k+i]?) (h:Row.okWide P w r base t cs):Value.okWide P w r base u (.agg ds):=by
 simp only [Value.okWide,hu]
 obtain ⟨ts',e,_,hall⟩:=h
 rw [ht] at e
 cases e
 refine ⟨ds,rfl,hsz,us,hus,⟨1,by omega⟩,fun i v hv=>?_⟩
 have hi:=(Array.getElem?_eq_some_iff.1 hv).1
 obtain ⟨h1,h2⟩:=hd i hi
 rw [h1] at hv
 obtain ⟨u',hu',hok⟩:=hall _ _ hv
 have hk:=(Array.getElem?_eq_some_iff.1 hv).1
 rw [Nat.mod_eq_of_lt (by omega)] at hu'
 exact ⟨u',by rw [Nat.mod_eq_of_lt (by omega),h2];exact hu',hok⟩
theorem array10 {α:Type} {cs:Array α} (h:cs.size=10):∃ c0 c1 c2 c3 c4 c5 c6 c7 c8 c9,cs=#[c0,c1,c2,c3,c4,c5,c6,c7,c8,c9]:=by
 obtain ⟨l⟩:=cs
 match l,h with
 |[c0,c1,c2,c3,c4,c5,c6,c7,c8,c9],_=>exact ⟨c0,c1,c2,c3,c4,c5,c6,c7,c8,c9,rfl⟩
theorem k5_ {H:Type} {enc:TypeId×Value->H} {W:World} {r:Reach} {b0:Nat} {spare:Nat->Bool} {held:Bool} {v:Value} {d:DataW H} {p:List MemPlace}
  (hv:Value.okWide Tryz.prog W r b0 65 v) (h:DataW.Trod enc Tryz.prog W 0 spare held 65 v d p) :
  ∃ s:Sr,StL W v s∧BigD s.d∧BigP s.p:=by
 have hc:Tryz.prog.cellsOf 65=10:=by kernel_rfl
 have hcD:Tryz.prog.cellsOf 46=3:=by kernel_rfl
 have hcP:Tryz.prog.cellsOf 36=6:=by kernel_rfl
 have hcI:Tryz.prog.cellsOf 2=1:=by kernel_rfl
 obtain ⟨cs,rfl,hsz⟩:=okWide_struct Tryz.underlying65 hv
 simp only [Value.okWide,Tryz.underlying65] at hv
 obtain ⟨cs',e,_,hrow⟩:=hv
 cases e
 obtain ⟨c0,c1,c2,c3,c4,c5,c6,c7,c8,c9,rfl⟩:=array10 (hsz.trans hc)
 obtain ⟨fuel,hf⟩:=h
 obtain ⟨xs,n,_,_,_,hlen,hx⟩:=DataW.trod_struct Tryz.underlying65 hf
 have len3:xs.length=3:=hlen
 have q0:DataW.trod enc Tryz.prog W 0 spare held n 46 [c0,c1,c2]=some (xs[0]'(by omega)):=by
  have:=hx 0 _ rfl
  rw [List.getElem?_eq_getElem (by omega)] at this
  simpa [Value.cells,hcD] using this
 have q1:DataW.trod enc Tryz.prog W 0 spare held n 36 [c3,c4,c5,c6,c7,c8]=some (xs[1]'(by omega)):=by
  have:=hx 1 _ rfl
  rw [List.getElem?_eq_getElem (by omega)] at this
  simpa [Value.cells,hcD,hcP] using this
 have q2:DataW.trod enc Tryz.prog W 0 spare held n 2 [c9]=some (xs[2]'(by omega)):=by
  have:=hx 2 _ rfl
  rw [List.getElem?_eq_getElem (by omega)] at this
  simpa [Value.cells,hcD,hcP,hcI] using this
 have oD:Value.okWide Tryz.prog W r b0 46 (.agg #[c0,c1,c2]):=
  gv_ (ts:=(Tryz.prog.cellTypes Tryz.prog.depth 65).getD []) (us:=(Tryz.prog.cellTypes Tryz.prog.depth 46).getD []) 0 Tryz.underlying46 (by kernel_rfl) (by kernel_rfl) (by rw [hcD];rfl) (by kernel_rfl) (by kernel_rfl)
   (fun i hi=>by
    have hi:i<3:=hi
    obtain rfl | rfl | rfl:i=0∨i=1∨i=2:=by omega
    all_goals exact ⟨rfl,by kernel_rfl⟩) hrow
 have oP:Value.okWide Tryz.prog W r b0 36 (.agg #[c3,c4,c5,c6,c7,c8]):=
  gv_ (ts:=(Tryz.prog.cellTypes Tryz.prog.depth 65).getD []) (us:=(Tryz.prog.cellTypes Tryz.prog.depth 36).getD []) 3 Tryz.underlying36 (by kernel_rfl) (by kernel_rfl) (by rw [hcP];rfl) (by kernel_rfl) (by kernel_rfl)
   (fun i hi=>by
    have hi:i<6:=hi
    obtain rfl | rfl | rfl | rfl | rfl | rfl:i=0∨i=1∨i=2∨i=3∨i=4∨i=5:=by omega
    all_goals exact ⟨rfl,by kernel_rfl⟩) hrow
 obtain ⟨dk,hD,bD⟩:=hE_ (d:=(xs[0]'(by omega)).1) (p:=(xs[0]'(by omega)).2) oD ⟨n,q0⟩
 obtain ⟨po,hP,bP⟩:=mU_ (d:=(xs[1]'(by omega)).1) (p:=(xs[1]'(by omega)).2) oP ⟨n,q1⟩
 obtain ⟨m,e2,_,_⟩:=DataW.trod_int Tryz.underlying2 q2
 simp at e2
 subst e2
 obtain ⟨la,ln,lc,sa,sn,sc,oa,on,oc,e0⟩:=hD.cells
 obtain ⟨ea,en,ec,va,vn,vc,ra,rn,rc,ta,tn,tc,e1⟩:=hP.cells
 simp only [Value.agg.injEq,Array.mk.injEq,List.cons.injEq,and_true] at e0 e1
 obtain ⟨rfl,rfl,rfl⟩:=e0
 obtain ⟨rfl,rfl,rfl,rfl,rfl,rfl⟩:=e1
 exact ⟨⟨dk,po,m⟩,⟨la,ln,lc,sa,sn,sc,oa,on,oc,ea,en,ec,va,vn,vc,ra,rn,rc,ta,tn,tc,rfl,hD,hP⟩,bD,bP⟩
end Go.Proofs.YtigldeccfpkdmaaGreatDoor
namespace Go.Proofs.YtigldeccfpkdmaaGreatDoor
open Go.ChangeShapes Go.WideShapes Go.ChangeAt Go.RowKit Go.Deep Go.Joins
open Go.ChangeMaps (open_string shut_string)
set_option maxHeartbeats 20000000
set_option maxRecDepth 100000
theorem liftedStoreOk (os:Os) (started:os.Started) (H:Type) (enc:TypeId×Value->H) :
  ReturnsInHanded {} Tryz.checked os 8 .any (fun w args=>(Rows.fnExactStoreOkSpec.pre enc Tryz.prog Tryz.f8 [] false w args∧laidMetH Tryz.prog Rows.fnExactStoreOkRow.laid w)∧sizedMet enc Tryz.prog Tryz.f8 (OpenSpec.ofChange Rows.fnExactStoreOkSpec) false w args)
   (Rows.fnExactStoreOkSpec.post enc Tryz.prog Tryz.f8 false true false false):=by
 refine bN_ (C:=Tryz.checked) (X:=fun w _=>laidMetH Tryz.prog Rows.fnExactStoreOkRow.laid w) (fun _ _ _ hh h=>h.of_heap hh) own started (by kernel_rfl) Tryz.func8
  (ChangeSpec.witness_shaped (enc:=enc) (C:=Tryz.checked) (os:=os) (X:=fun w _=>laidMetH Tryz.prog Rows.fnExactStoreOkRow.laid w) false (World.laidAll Tryz.prog os Rows.fnExactStoreOkRow.laid) #[.agg #[.slice none 0 0,.slice none 0 0,.slice none 0 0,.int .i64 0,.int .i64 0,.slice none 0 0,.slice none 0 0,.slice none 0 0,.slice none 0 0,.int .i64 0]] 8 (World.laidAll_os _ _ _)
   (World.shaped_of_ZipB (by kernel_rfl) (by kernel_rfl)) (by kernel_rfl) (by kernel_rfl) (by kernel_rfl)
   (by rw [MakeChecks.laidMetH_plain _ _ _ (by kernel_rfl)];exact laidMet_laidAll _ (by kernel_rfl) (by kernel_rfl))) ?_
 intro W base args ds gs before hval0 hW hL hsh
 have hval:∀ (j:Nat) t v,Tryz.f8.params[j]?=some t->args[j]?=some v->Value.okWide Tryz.prog W .any base t v:=hval0
 have hW':=hW
 obtain ⟨p,q,hA0,hV0,rfl,_,_⟩:=hW
 have hA:DataW.TrodAll enc Tryz.prog W 0 (fun _=>true) true Tryz.f8.params.toList args.toList ds p:=hA0
 have hV:DataW.TrodVars enc Tryz.prog W (fun _=>true) ["loop.example/g00336/impl.errText"] gs q:=hV0
 rw [Tryz.params8] at hA hval
 obtain ⟨v0,vs0,d0,ds0,p0,q0,hargs,rfl,rfl,h0,r0⟩:=trodAll_cons hA
 obtain ⟨rfl,rfl,rfl⟩:=trodAll_nil r0
 obtain rfl:args=#[v0]:=by cases args;simp_all
 obtain ⟨hG,a,hv⟩:=io_ hL hsh
 obtain ⟨rfl,rfl⟩:=hV.unique (vars_read1 enc gErrR gErrTR iface75R hv trivial _)
 clear hA0 hV0 hval0
 simp only [List.append_nil] at hW'
 have hlt:∀ x∈p0,x.block<W.heap.size:=fun x hx=>by simpa using hW'.lt x (by simp [hx])
 obtain ⟨q,hP,hb,hbp⟩:=k5_ (hval 0 65 v0 rfl rfl) h0
 refine (walkStoreOk v0 q W hP hb hbp hG).mono fun e W' ⟨he,hB⟩=>?_
 subst he
 have hargs:DataW.Trod enc Tryz.prog W' 0 (fun b=>decide (b<W.heap.size)) true 65 v0 d0 p0:=
  Below.trod laidOut (by kernel_rfl) (of_decide_eq_true (by kernel_rfl)) h0 hB hlt
 exact ⟨_,rfl,⟨_,_,_,[],_,[.cell 0 0],hW',trodAll_mk1 (shut_bool Tryz.underlying4 _),trodAll_mk1 hargs,vars_read1 enc gErrR gErrTR iface75R (gk_ hv hB hG.sz) trivial _,hB.frame _,fun h=>by cases h⟩⟩
theorem holdsStoreOk:Rows.FnExactStoreOkSaid:=
 OpenClaim.holds_of_wide 8 Tryz.f8 rfl rfl rfl rfl rfl rfl rfl ⟨rfl,rfl,rfl,rfl,rfl⟩ rfl rfl rfl rfl rfl (by kernel_rfl) Tryz.func8 (gW_ (by kernel_rfl) (by kernel_rfl) (by kernel_rfl) (by kernel_rfl) rfl rfl rfl (by kernel_rfl))
  (of_decide_eq_true (by kernel_rfl)) (by unfold Func.isWrapper;first | (rw [if_pos (by decide +kernel)];kernel_rfl) | (rw [if_neg (by decide +kernel)];exact ⟨rfl,rfl⟩))
  (fun os started H enc _=>liftedStoreOk os started H enc)
end Go.Proofs.YtigldeccfpkdmaaGreatDoor
