/- The laws' marks of volumes: written. The laws' marks of a pool that was read. -/
import Derived.Test.YtigldeccfpkdmaaGreatDoorK41
import Derived.Test.YtigldeccfpkdmaaGreatDoorCCommittedx46
import Derived.Test.YtigldeccfpkdmaaGreatDoorK04
import Derived.Test.YtigldeccfpkdmaaGreatDoorK00
import Derived.Test.YtigldeccfpkdmaaGreatDoorK03
import Derived.Test.YtigldeccfpkdmaaGreatDoorK06
import Derived.Test.YtigldeccfpkdmaaGreatDoorK07
import Derived.Test.YtigldeccfpkdmaaGreatDoorK02
import Derived.Test.YtigldeccfpkdmaaGreatDoorK05
import Derived.Maps.AppendAt
import Derived.Lib.SmallJoins
import Derived.Test.YtigldeccfpkdmaaGreatDoorK14
import Derived.Test.YtigldeccfpkdmaaGreatDoorProg
import Derived.Test.YtigldeccfpkdmaaGreatDoorK10
import Derived.Test.YtigldeccfpkdmaaGreatDoorK11
import Derived.Test.YtigldeccfpkdmaaGreatDoorK12
import Derived.Test.YtigldeccfpkdmaaGreatDoorK16
import Derived.Test.YtigldeccfpkdmaaGreatDoorK01
import Derived.Test.YtigldeccfpkdmaaGreatDoorK22
import Derived.Test.YtigldeccfpkdmaaGreatDoorK17
import Derived.Test.YtigldeccfpkdmaaGreatDoorK13
import Derived.Test.YtigldeccfpkdmaaGreatDoorK09
import Derived.Test.YtigldeccfpkdmaaGreatDoorK20
import Derived.Test.YtigldeccfpkdmaaGreatDoorK21
import Derived.Test.YtigldeccfpkdmaaGreatDoorK08
import Derived.Test.YtigldeccfpkdmaaGreatDoorK15
import Derived.Test.YtigldeccfpkdmaaGreatDoorK18
import Derived.Test.YtigldeccfpkdmaaGreatDoorK19
import Derived.Test.YtigldeccfpkdmaaGreatDoorK40
import Derived.Deep.RegionLaw
import Derived.Laws.AppendOwnNone
import Derived.WalkKit
import Derived.ProofKit
import Derived.OpenShut
import Derived.Handy
import Derived.Deep.Light
import Derived.Deep.RegionHeld3
import Derived.Deep.QuietTactic
import Derived.BigQuiet
import Derived.WalkSmall
import Derived.Laws.Cover1
import Derived.Laws.StructEq
import Derived.OrdersHeld
import Derived.StillTail
import Derived.RangeFuncNested
import Derived.RangeFuncBound
import Derived.RangeFuncCalls
import Derived.RangeFuncLeaves
import Derived.RangeFuncBox
import Derived.Shelf.Abstract
import Derived.Shelf.RegionOpen
import Derived.OwnWalkIn
import Derived.TacticsInMore
import Derived.LoopNIn
import Derived.LoopIn
import Derived.RangeFuncFrom
import Derived.Test.YtigldeccfpkdmaaGreatDoorCCommittedx45
import Derived.Laws.Rows
import Derived.Deep.Strs
import Derived.Deep.Slices
import Derived.SizedLaws
import Derived.StillTailTactics
import Derived.Lib.Strings
import Derived.Deep.DeepCutAuto
import Derived.Lib.AtoiTie
import Derived.Lib.ParseIntBTie
import Derived.Lib.Split
import Derived.Lib.Atoi
import Derived.Maps.RangeWalk
import Derived.Maps.Views
import Derived.WideKeyEntry
import Derived.DeepKeys4
import Derived.Shelf.Strconv.Itoa4
import Derived.Shelf.Strings.Prefix
import Derived.Shelf.Strings.OnBuilder
import Derived.Shelf.SlSortCmp.NoneTotal
import Derived.Shelf.Strconv.ErrVarParseInt
import Derived.Shelf.Strings.SplitShaped
import Derived.Lib.AppendStr
import Derived.Lib.AppendZerosOnto
import Derived.Laws.BytesArg
import Derived.Laws.Strings2
import Derived.Shelf.Strings.BuilderK
import Derived.Lib.AppendIntMem
import Derived.Lib.ItoaNum
import Derived.Maps.OwnSet
namespace Go.Proofs.YtigldeccfpkdmaaGreatDoor
open Go Go.RowKit Go.BigFrame
set_option maxHeartbeats 20000000
set_option maxRecDepth 100000
/-- All blocks of volumes. -/
def vbl (vr:List VR):List Nat:=vr.flatMap fun r=>(blkO r.a).toList++ibl r.irs
theorem kb_ {vr:List VR} {i:Nat} {x:VR} (h:vr[i]?=some x):vbl (vr.take (i+1))=vbl (vr.take i)++((blkO x.a).toList++ibl x.irs):=by
 unfold vbl
 rw [List.take_add_one,h]
 simp
theorem lY_ {vr:List VR} {x:VR} {ad:Addr} (h:x∈vr) (ha:x.a=some ad):ad.block∈vbl vr:=List.mem_flatMap.2 ⟨x,h,List.mem_append_left _ (by simp [blkO,ha])⟩
theorem lZ_ {vr:List VR} {x:VR} {y:IR} {ad:Addr} (h:x∈vr) (hy:y∈x.irs) (ha:y.a=some ad):ad.block∈vbl vr:=List.mem_flatMap.2 ⟨x,h,List.mem_append_right _ (ir_ hy ha)⟩
theorem cD_ {vr:List VR} {b:Nat} (h:b∈vbl vr):(∃ x∈vr,∃ ad,x.a=some ad∧ad.block=b)∨∃ x∈vr,∃ y∈x.irs,∃ ad,y.a=some ad∧ad.block=b:=by
 obtain ⟨x,hx,hb⟩:=List.mem_flatMap.1 h
 rcases List.mem_append.1 hb with hb | hb
 ·left
  cases ha:x.a with
  |none=>rw [ha] at hb;simp [blkO] at hb
  |some ad=>rw [ha] at hb;simp [blkO] at hb;exact ⟨x,hx,ad,ha,hb.symm⟩
 ·right
  obtain ⟨y,hy,e⟩:=List.mem_filterMap.1 hb
  cases ha:y.a with
  |none=>rw [ha] at e;cases e
  |some ad=>rw [ha] at e;exact ⟨x,hx,y,hy,ad,ha,Option.some.inj e⟩
/-- Another volume's blocks are others. -/
theorem ps_ {w:World} {B:Nat} {vr:List VR} {vs:List Vo} {i:Nat} {x:VR} (AL:Al2 (VoR w B) vr vs) (N1:(vblk vr).Nodup) (N2:(pblk vr).Nodup) (h:vr[i]?=some x):(∀ ad,x.a=some ad->ad.block∉vbl (vr.take i))∧∀ y∈x.irs,∀ ad,y.a=some ad->ad.block∉vbl (vr.take i):=by
 have hsp:vr.take (i+1)=vr.take i++[x]:=by rw [List.take_add_one,h];rfl
 have h1:(vblk (vr.take i++[x])).Nodup:=by rw [<-hsp];exact List.Nodup.sublist ((List.take_sublist _ _).filterMap _) N1
 have h2:(pblk (vr.take i++[x])).Nodup:=by
  rw [<-hsp]
  unfold pblk at N2 ⊢
  have e:=congrArg (fun l:List VR=>l.flatMap fun r=>r.irs.filterMap fun x=>blkO x.a) (List.take_append_drop (i+1) vr)
  simp only [List.flatMap_append] at e
  rw [<-e] at N2
  exact (List.nodup_append.1 N2).1
 rw [cw_] at h1
 rw [cx_] at h2
 have hxm:=List.mem_of_getElem? h
 obtain ⟨v,hv⟩:=aZ_ AL hxm
 have hm:∀ z∈vr.take i,z∈vr:=fun z hz=>List.mem_of_mem_take hz
 have hpt:∀ z∈vr,∀ y∈z.irs,∃ ps,ResAt Pt.cs 3 tP w B y.a y.n y.c ps:=fun z hz y hy=>by
  obtain ⟨u,hu⟩:=aZ_ AL hz
  obtain ⟨t,ht⟩:=aZ_ hu.its hy
  exact ⟨_,ht.ps⟩
 constructor
 ·intro ad e hb
  rcases cD_ hb with ⟨z,hz,az,ez,eb⟩ | ⟨z,hz,y,hy,ay,ey,eb⟩
  ·exact (List.nodup_append.1 h1).2.2 _ (fM_ hz ez) ad.block (by simp [blkO,e]) eb
  ·obtain ⟨ps,hp⟩:=hpt z (hm z hz) y hy
   exact dh_ hp hv.rows (by decide) ey e eb
 ·intro y hy ad e hb
  rcases cD_ hb with ⟨z,hz,az,ez,eb⟩ | ⟨z,hz,y',hy',ay,ey,eb⟩
  ·obtain ⟨ps,hp⟩:=hpt x hxm y hy
   obtain ⟨u,hu⟩:=aZ_ AL (hm z hz)
   exact dh_ hp hu.rows (by decide) e ez eb.symm
  ·exact (List.nodup_append.1 h2).2.2 _ (je_ hz hy' ey) ad.block (ir_ hy e) eb
theorem ResAt.chgA {w w':World} {B:Nat} {L:List Nat} {irs:List IR} {its:List It} (h:Al2 (ItR w B) irs its) (hc:Chg L w w') (hn:∀ x∈irs,∀ ad,x.a=some ad->ad.block∉L):Al2 (ItR w' B) irs its:=h.imp fun x hx _ hr=>⟨hr.nm,hr.ps.chg hc (hn x hx)⟩
theorem gQ_ (B:Nat) (a:Option Addr) (n cap k0:Nat) (vr:List VR) (vs:List Vo) (w:World) (RV:ResAt VR.cs 4 tV w B a n cap vr) (AL:Al2 (VoR w B) vr vs) (N1:(vblk vr).Nodup) (N2:(pblk vr).Nodup) (hn:n<=4194304) (hpn:∀ x∈vr,x.n<=4194304∧∀ y∈x.irs,y.n<=4194304) (hk1:1<=k0) (hk2:kVo k0 vr<=40000000) :
  Calls Tryz.prog 46 #[.slice a n cap,.int .i64 ((k0:Nat):Int)] w fun e w'=>e=.returned (.int .i64 ((kVo k0 vr:Nat):Int))∧MkV w' a vr k0∧Chg ((blkO a).toList++vbl vr) w w':=by
 have hlen:=RV.sl.len
 rcases RV.own with ⟨rfl,rfl,rfl⟩ | ⟨vb,rfl,hB,hnc,hcm,c,hc,hs,_⟩
 ·obtain rfl:=List.eq_nil_of_length_eq_zero hlen
  go_enter Tryz.func46,Tryz.ntmps46
  go_wp2_with fail
  go_rounds 1
  go_returns
  exact ⟨rfl,fun j x hx=>(by simp at hx),Chg.refl _ _⟩
 ·have hsl:Hid (∀ j x,vr[j]?=some x->c[j*4+3]?=some (.slice x.a x.n x.c)):=fun j x hx=>by
   obtain ⟨b,o,e,hq⟩:=RV.sl.cell j x hx
   cases e
   have:=hq 3 _ rfl
   rw [hc.cell] at this
   simpa using this
  have hV:Hid (∀ x∈vr,∃ v,VoR w B x v):=fun x hx=>aZ_ AL hx
  have hne:Hid (∀ x∈vr,(∀ ad,x.a=some ad->ad.block≠vb)∧∀ y∈x.irs,∀ ad,y.a=some ad->ad.block≠vb):=fun x hx=>by
   obtain ⟨v,hv⟩:=hV.out x hx
   refine ⟨fun ad e=>dh_ hv.rows RV (by decide) e rfl,fun y hy ad e=>?_⟩
   obtain ⟨t,ht⟩:=aZ_ hv.its hy
   exact dh_ ht.ps RV (by decide) e rfl
  have hNi:Hid (∀ x∈vr,(ibl x.irs).Nodup):=fun x hx=>by
   obtain ⟨l1,l2,e⟩:=List.append_of_mem hx
   have h3:=N2
   rw [e] at h3
   unfold pblk at h3
   rw [List.flatMap_append,List.flatMap_cons] at h3
   exact (List.nodup_append.1 (List.nodup_append.1 h3).2.1).1
  have hkl:Hid (∀ i,kVo k0 (vr.take i)<=40000000):=fun i=>Nat.le_trans (n5_ i) hk2
  have hkg:Hid (∀ i,1<=kVo k0 (vr.take i)):=fun i=>Nat.le_trans hk1 (iq_ _ _)
  obtain ⟨kE,hkE⟩:∃ kE,Hid (kVo k0 vr=kE):=⟨_,rfl⟩
  rw [hkE.out]
  go_enter Tryz.func46,Tryz.ntmps46
  go_wp2_with fail
  go_loopw [1,5] (fun kk ix wr=>∃ (i:Nat) (c':Array Value),i<=n∧ix=.int .i64 i∧kk=.int .i64 ((kVo k0 (vr.take i):Nat):Int)∧Blk wr vb c' tV∧Hid (c'.size=c.size)∧Hid (∀ j x,vr[j]?=some x->c'[j*4+3]?=some (.slice x.a x.n x.c))∧Hid (∀ j,j<i->c'[j*4]?=some (.int .i64 ((kVo k0 (vr.take j):Nat):Int))∧c'[j*4+1]?=some (.string (markT (kVo k0 (vr.take j)+1)))∧c'[j*4+2]?=some (.bool ((((kVo k0 (vr.take j):Nat):Int)+1+1) % 3==0)))∧Hid (∀ j x,j<i->vr[j]?=some x->MkI wr x.a x.irs (kVo k0 (vr.take j)+3))∧Chg (vb::vbl (vr.take i)) w wr) (fun _ ix _=>n-(intOf ix).toNat)
  case atStart=>exact ⟨0,c,Nat.zero_le _,rfl,rfl,hc,rfl,hsl.out,fun j hj=>(by omega),fun j x hj=>(by omega),Chg.refl _ _⟩
  case round=>
   obtain ⟨i,c',hi,rfl,rfl,hblk,hcs,hcc,hcm1,hmk,hC⟩:=hrel
   by_cases hlt:i<n
   ·obtain ⟨x,hx⟩:∃ x,vr[i]?=some x:=⟨vr[i]'(by omega),by simp⟩
    have hxm:=List.mem_of_getElem? hx
    obtain ⟨v,hv⟩:=hV.out x hxm
    have hc3:i*4+3<c'.size:=by rw [hcs.out,hs];have:=Nat.mul_le_mul_right 4 hnc;omega
    have hi1:(i:Int)<n:=by omega
    have hi2:(0:Int)<=i:=by omega
    obtain ⟨q,hq⟩:∃ q,Hid (kVo k0 (vr.take i)=q):=⟨_,rfl⟩
    have hq1:1<=q:=by rw [<-hq.out];exact hkg.out i
    have hq3:Hid (kVo k0 (vr.take (i+1))=kIt (q+3) x.irs):=by show _=_;rw [ka_ hx,hq.out]
    have hq4:kIt (q+3) x.irs<=40000000:=by rw [<-hq3.out];exact hkl.out (i+1)
    have hq2:q+3<=40000000:=Nat.le_trans (ip_ _ _) hq4
    have hxn:=hpn x hxm
    rw [hq.out]
    obtain ⟨v0,y0⟩:=hblk.has (i:=i*4) (by omega)
    have f0:=hblk.frozen (i*4)
    go_wp2_with fail
    refine (ar_ (q+1) _ (by omega) _ (by omega) (by omega)).mono ?_
    rintro e w1 ⟨rfl,hB1⟩
    have b0:=hblk.set (i*4) (.int .i64 ((q:Nat):Int))
    have C01:Chg [vb] wr w1:=(Chg.ofG (ac_ (World.grownBy.refl _ _) _ _) (fun b e=>by cases e;simp)).trans (Chg.ofB hB1)
    have b1:=b0.below hB1
    clear y0 f0 b0 hB1
    obtain ⟨v1,y1⟩:=b1.has (i:=i*4+1) (by simp;omega)
    have f1:=b1.frozen (i*4+1)
    obtain ⟨v2,y2⟩:=b1.has (i:=i*4+2) (by simp;omega)
    have f2:=b1.frozen (i*4+2)
    have y3:w1.cell? ⟨vb,i*4+3,none⟩=some (.slice x.a x.n x.c):=by rw [b1.cell,Array.getElem?_setIfInBounds_ne (by omega)];exact hcc.out i x hx
    go_wp2_with fail
    rw [show ((q:Nat):Int)+1+1+1=((q+3:Nat):Int) by omega]
    have b2:=(b1.set (i*4+1) (.string (markT (q+1)))).set (i*4+2) (.bool ((((q:Nat):Int)+1+1) % 3==0))
    have C12:Chg [vb] wr ((w1.setCell ⟨vb,i*4+1,none⟩ (.string (markT (q+1)))).setCell ⟨vb,i*4+2,none⟩ (.bool ((((q:Nat):Int)+1+1) % 3==0))):=C01.trans (Chg.ofG (ac_ (ac_ (World.grownBy.refl _ _) _ _) _ _) (fun b e=>by cases e;simp))
    generalize (w1.setCell ⟨vb,i*4+1,none⟩ (.string (markT (q+1)))).setCell ⟨vb,i*4+2,none⟩ (.bool ((((q:Nat):Int)+1+1) % 3==0))=W2 at *
    clear y1 y2 y3 f1 f2 b1 C01
    have hC2:Chg (vb::vbl (vr.take i)) w W2:=hC.trans (C12.mono (by simp))
    obtain ⟨hno1,hno2⟩:=ps_ AL N1 N2 hx
    obtain ⟨hn1,hn2⟩:=hne.out x hxm
    have RI2:=hv.rows.chg hC2 (fun ad e=>by
     simp only [List.mem_cons,not_or]
     exact ⟨hn1 ad e,hno1 ad e⟩)
    have IL2:=ResAt.chgA hv.its hC2 (fun y hy ad e=>by
     simp only [List.mem_cons,not_or]
     exact ⟨hn2 y hy ad e,hno2 y hy ad e⟩)
    refine (gm_ B x.a x.n x.c (q+3) x.irs v.its W2 RI2 IL2 (hNi.out x hxm) hxn.1 hxn.2 (by omega) hq4).mono ?_
    rintro e w3 ⟨rfl,hMk,C23⟩
    have hvn:vb∉(blkO x.a).toList++ibl x.irs:=fun hm=>by
     rcases List.mem_append.1 hm with hm | hm
     ·cases hxa:x.a with
      |none=>rw [hxa] at hm;simp [blkO] at hm
      |some ad=>rw [hxa] at hm;simp [blkO] at hm;exact hn1 ad hxa hm.symm
     ·obtain ⟨y,hy,e⟩:=List.mem_filterMap.1 hm
      cases hya:y.a with
      |none=>rw [hya] at e;cases e
      |some ad=>rw [hya] at e;exact hn2 y hy ad hya (Option.some.inj e)
    have b3:=C23.blk b2 hvn
    have hC3:Chg (vb::vbl (vr.take (i+1))) w w3:=(hC2.mono (fun k hk=>by
     rw [kb_ hx]
     rcases List.mem_cons.1 hk with rfl | hk
     ·simp
     ·exact List.mem_cons_of_mem _ (List.mem_append_left _ hk))).trans (C23.mono (fun k hk=>by rw [kb_ hx];exact List.mem_cons_of_mem _ (List.mem_append_right _ hk)))
    have hin:∀ b,b∈vbl (vr.take i)->b∉(blkO x.a).toList++ibl x.irs:=fun b hb hm=>by
     rcases List.mem_append.1 hm with hm | hm
     ·cases hxa:x.a with
      |none=>rw [hxa] at hm;simp [blkO] at hm
      |some ad=>rw [hxa] at hm;simp [blkO] at hm;exact hno1 ad hxa (hm▸hb)
     ·obtain ⟨y,hy,e⟩:=List.mem_filterMap.1 hm
      cases hya:y.a with
      |none=>rw [hya] at e;cases e
      |some ad=>rw [hya] at e;exact hno2 y hy ad hya (by rw [show ad.block=b from Option.some.inj e];exact hb)
    have hmk3:Hid (∀ j z,j<i+1->vr[j]?=some z->MkI w3 z.a z.irs (kVo k0 (vr.take j)+3)):=fun j z hj hz=>by
     by_cases hji:j=i
     ·subst hji
      obtain rfl:x=z:=Option.some.inj (hx.symm.trans hz)
      rw [hq.out]
      exact hMk
     ·have hzm:=List.mem_of_getElem? hz
      have hzt:z∈vr.take i:=List.mem_of_getElem? (i:=j) (by rw [List.getElem?_take_of_lt (by omega)];exact hz)
      obtain ⟨hz1,hz2⟩:=hne.out z hzm
      have h1:=hmk.out j z (by omega) hz
      exact (h1.chg C12 (fun ad e=>by simpa using hz1 ad e) (fun y hy ad e=>by simpa using hz2 y hy ad e)).chg C23 (fun ad e=>hin _ (lY_ hzt e)) (fun y hy ad e=>hin _ (lZ_ hzt hy e))
    clear hMk C23 hC2 C12 hblk b2 RI2 IL2 hno1 hno2 hn1 hn2 hvn hin
    obtain ⟨qe,hqe⟩:∃ qe,Hid (kIt (q+3) x.irs=qe):=⟨_,rfl⟩
    rw [hqe.out]
    go_wp2
    go_roundw
    case rel=>
     refine ⟨i+1,_,by omega,by go_num,?_,b3,by show _=_;simp [hcs.out],?_,?_,hmk3,hC3⟩
     ·rw [hq3.out,hqe.out]
     ·intro j z hz
      rw [Array.getElem?_setIfInBounds_ne (by omega),Array.getElem?_setIfInBounds_ne (by omega),Array.getElem?_setIfInBounds_ne (by omega)]
      exact hcc.out j z hz
     ·intro j hj
      by_cases hji:j=i
      ·subst hji
       refine ⟨?_,?_,?_⟩
       ·rw [Array.getElem?_setIfInBounds_ne (by omega),Array.getElem?_setIfInBounds_ne (by omega),Array.getElem?_setIfInBounds_self_of_lt (by omega),hq.out]
       ·rw [Array.getElem?_setIfInBounds_ne (by omega),Array.getElem?_setIfInBounds_self_of_lt (by simp;omega),hq.out]
       ·rw [Array.getElem?_setIfInBounds_self_of_lt (by simp;omega),hq.out]
      ·obtain ⟨r0,r1,r2⟩:=hcm1.out j (by omega)
       refine ⟨?_,?_,?_⟩
       all_goals (rw [Array.getElem?_setIfInBounds_ne (by omega),Array.getElem?_setIfInBounds_ne (by omega),Array.getElem?_setIfInBounds_ne (by omega)];assumption)
    case measure=>simp [intOf];omega
   ·obtain rfl:i=n:=by omega
    have ht:vr.take i=vr:=List.take_of_length_le (by omega)
    rw [ht] at hC ⊢
    rw [hkE.out]
    go_wp2
    go_returns
    refine ⟨rfl,fun j x hx=>?_,hC⟩
    have hj:j<i:=by rw [<-hlen];exact (List.getElem?_eq_some_iff.1 hx).1
    obtain ⟨r0,r1,r2⟩:=hcm1.out j hj
    exact ⟨vb,rfl,by rw [hblk.cell];exact r0,by rw [hblk.cell];exact r1,by rw [hblk.cell];exact r2,by rw [hblk.cell];exact hcc.out j x hx,hmk.out j x hj hx⟩
theorem gR_ (a:Option Addr) (n cap k0:Nat) (vr:List VR) (w:World) (h:MkV w a vr k0) (hlen:vr.length=n) (hil:∀ x∈vr,x.irs.length=x.n) (hn:n<=4194304) (hpn:∀ x∈vr,x.n<=4194304∧∀ y∈x.irs,y.n<=4194304) (hk1:1<=k0) (hk2:kVo k0 vr<=40000000) :
  Calls Tryz.prog 49 #[.slice a n cap,.int .i64 ((k0:Nat):Int)] w fun e w'=>e=.returned (.int .i64 ((kVo k0 vr:Nat):Int))∧Below w.heap.size w w':=by
 have hkl:Hid (∀ i,kVo k0 (vr.take i)<=40000000):=fun i=>Nat.le_trans (n5_ i) hk2
 have hkg:Hid (∀ i,1<=kVo k0 (vr.take i)):=fun i=>Nat.le_trans hk1 (iq_ _ _)
 obtain ⟨kE,hkE⟩:∃ kE,Hid (kVo k0 vr=kE):=⟨_,rfl⟩
 rw [hkE.out]
 go_enter Tryz.func49,Tryz.ntmps49
 go_wp2_with fail
 go_loopw [1,5] (fun kk ix wr=>∃ (i:Nat),i<=n∧ix=.int .i64 i∧kk=.int .i64 ((kVo k0 (vr.take i):Nat):Int)∧Below w.heap.size w wr) (fun _ ix _=>n-(intOf ix).toNat)
 case atStart=>exact ⟨0,Nat.zero_le _,rfl,rfl,Below.refl _ _⟩
 case round=>
  obtain ⟨i,hi,rfl,rfl,hB⟩:=hrel
  by_cases hlt:i<n
  ·obtain ⟨x,hx⟩:∃ x,vr[i]?=some x:=⟨vr[i]'(by omega),by simp⟩
   have hxm:=List.mem_of_getElem? hx
   obtain ⟨b,rfl,c0,c1,c2,c3,hm⟩:=h i x hx
   have hi1:(i:Int)<n:=by omega
   have hi2:(0:Int)<=i:=by omega
   obtain ⟨q,hq⟩:∃ q,Hid (kVo k0 (vr.take i)=q):=⟨_,rfl⟩
   have hq1:1<=q:=by rw [<-hq.out];exact hkg.out i
   have hq3:Hid (kVo k0 (vr.take (i+1))=kIt (q+3) x.irs):=by show _=_;rw [ka_ hx,hq.out]
   have hq4:kIt (q+3) x.irs<=40000000:=by rw [<-hq3.out];exact hkl.out (i+1)
   have hq2:q+3<=40000000:=Nat.le_trans (ip_ _ _) hq4
   have hxn:=hpn x hxm
   rw [hq.out] at c0 c1 c2 hm ⊢
   replace c0:=bcell hB c0
   replace c1:=bcell hB c1
   replace c2:=bcell hB c2
   replace c3:=bcell hB c3
   replace hm:=hm.below hB
   have e0:(((q:Nat):Int) != ((q:Nat):Int))=false:=by simp
   have e1:(!((markT (q+1)).toList==(markT (q+1)).toList))=false:=by simp
   go_wp2_with fail
   have g1:=gcell c1
   have hne:=aq_ wr
   refine aa_ (by kernel_rfl) (by kernel_rfl) ?_
   repeat (go_big_quiet_step (first | (go_at_call 109;exact ag_ (ar_ (q+1) (((q:Nat):Int)+1) (by omega) _ (by omega) (by omega)))))
   refine wpQuiet_nil ?_
   intro w2 hxx
   have hB2:=ae_ hxx
   clear hxx g1 hne e1
   replace c2:=bcell hB2 c2
   replace c3:=bcell hB2 c3
   replace hm:=hm.below hB2
   have hC2:=chain hB hB2
   go_wp2_with fail
   rw [show ((q:Nat):Int)+1+1+1=((q+3:Nat):Int) by omega]
   refine (gn_ x.a x.n x.c (q+3) x.irs w2 hm (hil x hxm) hxn.1 hxn.2 (by omega) hq4).mono ?_
   rintro e w3 ⟨rfl,hB3⟩
   have hC3:=chain hC2 hB3
   obtain ⟨qq,hqq⟩:∃ qq:Int,((kIt (q+3) x.irs:Nat):Int)=qq:=⟨_,rfl⟩
   have hqh:Hid (((kIt (q+3) x.irs:Nat):Int)=qq):=hqq
   have hq5:0<=qq:=by omega
   have hq6:¬ qq<0:=by omega
   have hq7:qq<=40000000:=by omega
   rw [hqq]
   clear hqq
   go_wp2
   go_roundw
   case rel=>exact ⟨i+1,by omega,by go_num,by rw [<-hqh.out,hq3.out],hC3⟩
   case measure=>simp [intOf];omega
  ·obtain rfl:i=n:=by omega
   have ht:vr.take i=vr:=List.take_of_length_le (by omega)
   rw [ht,hkE.out]
   go_wp2
   go_returns
   exact ⟨rfl,hB⟩
theorem pt_ {w:World} {B:Nat} {irs:List IR} {its:List It} (h:Al2 (ItR w B) irs its):(irs.map fun x=>1+3*x.n).sum=(its.map fun x=>1+3*x.ps.length).sum:=by
 induction h with
 |nil=>rfl
 |cons hr _ ih=>
  simp only [List.map_cons,List.sum_cons,ih]
  rw [<-hr.ps.sl.len]
theorem pu_ {w:World} {B k0:Nat} {vr:List VR} {vs:List Vo} (h:Al2 (VoR w B) vr vs):kVo k0 vr=k0+nVs vs:=by
 unfold kVo nVs
 congr 1
 induction h with
 |nil=>rfl
 |cons hr _ ih=>
  simp only [List.map_cons,List.sum_cons,ih]
  rw [pt_ hr.its]
theorem co_ {α β:Type} {cs:α->List Value} {cs':β->List Value} {sz sz':Nat} {t t':TypeId} {w:World} {B n cap B' n' cap':Nat} {a a':Option Addr} {l:List α} {l':List β} (h:ResAt cs sz t w B a n cap l) (h':ResAt cs' sz' t' w B' a' n' cap' l') (ht:t≠t'):∀ ad,a=some ad->ad.block∉(blkO a').toList:=fun ad e hm=>by
 cases ha:a' with
 |none=>rw [ha] at hm;simp [blkO] at hm
 |some ad'=>rw [ha] at hm;simp [blkO] at hm;exact dh_ h h' ht e ha hm
theorem cE_ {α:Type} {cs:α->List Value} {sz:Nat} {t:TypeId} {w:World} {B B' n cap:Nat} {a:Option Addr} {l:List α} {vr:List VR} {vs:List Vo} (h:ResAt cs sz t w B a n cap l) (AL:Al2 (VoR w B') vr vs) (h1:t≠tI) (h2:t≠tP):∀ ad,a=some ad->ad.block∉vbl vr:=fun ad e hm=>by
 rcases cD_ hm with ⟨z,hz,az,ez,eb⟩ | ⟨z,hz,y,hy,ay,ey,eb⟩
 ·obtain ⟨u,hu⟩:=aZ_ AL hz
  exact dh_ h hu.rows h1 e ez eb.symm
 ·obtain ⟨u,hu⟩:=aZ_ AL hz
  obtain ⟨t,ht⟩:=aZ_ hu.its hy
  exact dh_ h ht.ps h2 e ey eb.symm
theorem fr_ {L:List Nat} {w w':World} {B:Nat} (h:Chg L w w') (hL:∀ b∈L,B<=b) (hB:B<=w.heap.size):Below B w w':=⟨h.os,h.tape,h.output,h.size,fun k hk=>h.block k (by omega) (fun hm=>by have:=hL k hm;omega)⟩
theorem pv_ {w:World} {B:Nat} {vr:List VR} {vs:List Vo} (AL:Al2 (VoR w B) vr vs):∀ b∈vbl vr,B<=b:=fun b hb=>by
 rcases cD_ hb with ⟨z,hz,az,ez,rfl⟩ | ⟨z,hz,y,hy,ay,ey,rfl⟩
 ·obtain ⟨u,hu⟩:=aZ_ AL hz
  exact (hu.rows.block az ez).1
 ·obtain ⟨u,hu⟩:=aZ_ AL hz
  obtain ⟨t,ht⟩:=aZ_ hu.its hy
  exact (ht.ps.block ay ey).1
theorem fs_ {α:Type} {cs:α->List Value} {sz:Nat} {t:TypeId} {w:World} {B n cap:Nat} {a:Option Addr} {l:List α} (h:ResAt cs sz t w B a n cap l):∀ b∈(blkO a).toList,B<=b:=fun b hb=>by
 cases ha:a with
 |none=>rw [ha] at hb;simp [blkO] at hb
 |some ad=>rw [ha] at hb;simp [blkO] at hb;subst hb;exact (h.block ad ha).1
theorem l0_ {α β:Type} {R:α->β->Prop} {l:List α} {m:List β} (h:Al2 R l m) {x:α} (hx:x∈l):∃ y∈m,R x y:=by
 induction h with
 |nil=>cases hx
 |cons hr _ ih=>
  rcases List.mem_cons.1 hx with rfl | hx
  ·exact ⟨_,by simp,hr⟩
  ·obtain ⟨y,hy,h⟩:=ih hx
   exact ⟨y,by simp [hy],h⟩
theorem MkE.chg {w w':World} {a:Option Addr} {n k0:Nat} {L:List Nat} (h:MkE w a n k0) (hc:Chg L w w') (hn:∀ ad,a=some ad->ad.block∉L):MkE w' a n k0:=fun j hj=>by
 obtain ⟨b,ha,c0,c1⟩:=h j hj
 have:=hn _ ha
 exact ⟨b,ha,hc.cell c0 this,hc.cell c1 this⟩
theorem MkC.chg {w w':World} {a:Option Addr} {n k0:Nat} {L:List Nat} (h:MkC w a n k0) (hc:Chg L w w') (hn:∀ ad,a=some ad->ad.block∉L):MkC w' a n k0:=fun j hj=>by
 obtain ⟨b,ha,c0,c1,c2,c3⟩:=h j hj
 have:=hn _ ha
 exact ⟨b,ha,hc.cell c0 this,hc.cell c1 this,hc.cell c2 this,hc.cell c3 this⟩
theorem l1_ {a a':Option Addr} (h:∀ x y,a=some x->a'=some y->x.block≠y.block):∀ ad,a=some ad->ad.block∉(blkO a').toList:=fun ad e hm=>by
 cases ha:a' with
 |none=>rw [ha] at hm;simp [blkO] at hm
 |some ad'=>rw [ha] at hm;simp [blkO] at hm;exact h ad ad' e ha hm
theorem ft_ {α:Type} {cs:α->List Value} {sz:Nat} {t:TypeId} {w:World} {B n cap:Nat} {a:Option Addr} {l:List α} (h:ResAt cs sz t w B a n cap l):∀ b∈(blkO a).toList,b<w.heap.size:=fun b hb=>by
 cases ha:a with
 |none=>rw [ha] at hb;simp [blkO] at hb
 |some ad=>rw [ha] at hb;simp [blkO] at hb;subst hb;exact (h.block ad ha).2
theorem pw_ {w:World} {B:Nat} {vr:List VR} {vs:List Vo} (AL:Al2 (VoR w B) vr vs):∀ b∈vbl vr,b<w.heap.size:=fun b hb=>by
 rcases cD_ hb with ⟨z,hz,az,ez,rfl⟩ | ⟨z,hz,y,hy,ay,ey,rfl⟩
 ·obtain ⟨u,hu⟩:=aZ_ AL hz
  exact (hu.rows.block az ez).2
 ·obtain ⟨u,hu⟩:=aZ_ AL hz
  obtain ⟨t,ht⟩:=aZ_ hu.its hy
  exact (ht.ps.block ay ey).2
theorem go_ (B:Nat) (v:Value) (p:Po) (wT w:World) (h:PoolM B wT v p) (hW:Below wT.heap.size wT w) (hd:DimK p) (hB:B<=wT.heap.size) (kb:Nat) (kc:Array Value) (kt:TypeId) (KB:Blk w kb kc kt) (hkb:wT.heap.size<=kb) :
  Calls Tryz.prog 12 #[v,.int .i64 1] w fun e w'=>(∃ k:Nat,e=.returned (.int .i64 ((k:Nat):Int))∧MkPo w' v k∧k<=1000000)∧Below B w w'∧Blk w' kb kc kt:=by
 obtain ⟨ea,en,ec,va,vn,vc,ra,rn,rc,la,ln,lc,vr,rfl,RE,RV,RR,RL,hap,AL,N1,N2⟩:=h.out
 have hen:en<=60000:=by rw [<-RE.sl.len];exact hd.ex
 have hvn:vn<=60000:=by rw [<-RV.sl.len,AL.len];exact hd.vs
 have hrn:rn<=60000:=by rw [<-RR.sl.len];exact hd.rf
 have hln:ln<=60000:=by rw [<-RL.sl.len];exact hd.lt
 have hk:kVo (1+2*en) vr<=400000:=by rw [pu_ AL];have:=hd.nv;omega
 have hkg:=iq_ (1+2*en) vr
 have hvl:Hid (vr.length=vn):=RV.sl.len
 have hil:Hid (∀ x∈vr,x.irs.length=x.n):=fun x hx=>by
  obtain ⟨u,hu⟩:=aZ_ AL hx
  exact hu.rows.sl.len
 have hpn:Hid (∀ x∈vr,x.n<=4194304∧∀ y∈x.irs,y.n<=4194304):=fun x hx=>by
  obtain ⟨u,hu1,hu⟩:=l0_ AL hx
  obtain ⟨d1,d2⟩:=hd.its u hu1
  refine ⟨by rw [<-hu.rows.sl.len,hu.its.len];omega,fun y hy=>?_⟩
  obtain ⟨t,ht1,ht⟩:=l0_ hu.its hy
  have:=d2 t ht1
  rw [<-ht.ps.sl.len]
  omega
 have hLE:Hid (∀ b∈(blkO ea).toList,b<wT.heap.size):=ft_ RE
 have hLV:Hid (∀ b∈(blkO va).toList++vbl vr,b<wT.heap.size):=fun b hb=>(List.mem_append.1 hb).elim (ft_ RV b) (pw_ AL b)
 have hLR:Hid (∀ b∈(blkO ra).toList,b<wT.heap.size):=ft_ RR
 have hLL:Hid (∀ b∈(blkO la).toList,b<wT.heap.size):=ft_ RL
 have hGE:=fs_ RE
 have hGV:∀ b∈(blkO va).toList++vbl vr,B<=b:=fun b hb=>(List.mem_append.1 hb).elim (fs_ RV b) (pv_ AL b)
 have hGR:=fs_ RR
 have hGL:=fs_ RL
 have hEV:∀ ad,ea=some ad->ad.block∉(blkO va).toList++vbl vr:=fun ad e hm=>(List.mem_append.1 hm).elim (co_ RE RV (by decide) ad e) (cE_ RE AL (by decide) (by decide) ad e)
 have hRV:∀ ad,ra=some ad->ad.block∉(blkO va).toList++vbl vr:=fun ad e hm=>(List.mem_append.1 hm).elim (co_ RR RV (by decide) ad e) (cE_ RR AL (by decide) (by decide) ad e)
 have hLVn:∀ ad,la=some ad->ad.block∉(blkO va).toList++vbl vr:=fun ad e hm=>(List.mem_append.1 hm).elim (co_ RL RV (by decide) ad e) (cE_ RL AL (by decide) (by decide) ad e)
 have hVE:=co_ RV RE (by decide)
 have hER:=co_ RE RR (by decide)
 have hEL:=co_ RE RL (by decide)
 have hRE:=co_ RR RE (by decide)
 have hLEn:=co_ RL RE (by decide)
 have hVR:=co_ RV RR (by decide)
 have hVL:=co_ RV RL (by decide)
 have hvE:∀ b∈vbl vr,b∉(blkO ea).toList:=fun b hb hm=>by
  cases hea:ea with
  |none=>rw [hea] at hm;simp [blkO] at hm
  |some ad=>rw [hea] at hm;simp [blkO] at hm;exact cE_ RE AL (by decide) (by decide) ad hea (hm▸hb)
 have hvR:∀ b∈vbl vr,b∉(blkO ra).toList:=fun b hb hm=>by
  cases hea:ra with
  |none=>rw [hea] at hm;simp [blkO] at hm
  |some ad=>rw [hea] at hm;simp [blkO] at hm;exact cE_ RR AL (by decide) (by decide) ad hea (hm▸hb)
 have hvL:∀ b∈vbl vr,b∉(blkO la).toList:=fun b hb hm=>by
  cases hea:la with
  |none=>rw [hea] at hm;simp [blkO] at hm
  |some ad=>rw [hea] at hm;simp [blkO] at hm;exact cE_ RL AL (by decide) (by decide) ad hea (hm▸hb)
 have hRL:=l1_ hap
 have hLRn:=l1_ (fun x y hx hy=>(hap y x hy hx).symm)
 have hwT:=hW.size
 have hA0:Below w.heap.size w (w.alloc (.cells #[.int .i64 p.size,.int .i64 p.next,.slice ea en ec,.slice va vn vc,.slice ra rn rc,.slice la ln lc] 26)):=(Below.refl _ _).alloc (Nat.le_refl _) _
 have PB:=Blk.new w #[.int .i64 p.size,.int .i64 p.next,.slice ea en ec,.slice va vn vc,.slice ra rn rc,.slice la ln lc] 26
 have hWA:=chain hW hA0
 replace KB:=KB.below hA0
 replace RE:=RE.below hWA
 replace RV:=RV.below hWA
 replace RR:=RR.below hWA
 replace RL:=RL.below hWA
 replace AL:Al2 (VoR _ B) vr p.vs:=AL.imp fun _ _ _ h=>h.below hWA
 obtain ⟨K2,hK2⟩:∃ K,Hid (kVo (1+2*en) vr=K):=⟨_,rfl⟩
 rw [hK2.out] at hk hkg
 go_enter Tryz.func12,Tryz.ntmps12
 go_wp2_with fail
 generalize w.alloc (.cells #[.int .i64 p.size,.int .i64 p.next,.slice ea en ec,.slice va vn vc,.slice ra rn rc,.slice la ln lc] 26)=W0 at *
 have hB0:Below B w W0:=hA0.mono (by omega)
 have hs0:=hA0.size
 refine (markMkE B ea en ec 1 p.ex W0 RE (by omega) ⟨by omega,by omega⟩).mono ?_
 rintro e w1 ⟨rfl,hE1,hg1⟩
 have C1:=fq_ hg1
 replace RV:=RV.chg C1 hVE
 replace RR:=RR.chg C1 hRE
 replace RL:=RL.chg C1 hLEn
 replace AL:Al2 (VoR w1 B) vr p.vs:=AL.imp fun x hx _ hr=>⟨hr.id,hr.nm,hr.fx,hr.rows.chg C1 (fun ad e=>hvE _ (lY_ hx e)),ResAt.chgA hr.its C1 (fun y hy ad e=>hvE _ (lZ_ hx hy e))⟩
 replace PB:=C1.blk PB (fun hm=>by have:=hLE.out _ hm;omega)
 replace KB:=C1.blk KB (fun hm=>by have:=hLE.out _ hm;omega)
 have b1:=hB0.trans (fr_ C1 hGE (by omega))
 have hs1:=b1.size
 clear hg1 C1 RE hA0 hB0
 have p3:=PB.cell 3
 have q2:=gQ_ B va vn vc (1+2*en) vr p.vs w1 RV AL N1 N2 (by omega) hpn.out (by omega) (by rw [hK2.out];omega)
 rw [hK2.out] at q2
 go_wp2_with fail
 refine q2.mono ?_
 rintro e w2 ⟨rfl,hV2,C2⟩
 replace hE1:=hE1.chg C2 hEV
 replace RR:=RR.chg C2 hRV
 replace RL:=RL.chg C2 hLVn
 replace PB:=C2.blk PB (fun hm=>by have:=hLV.out _ hm;omega)
 replace KB:=C2.blk KB (fun hm=>by have:=hLV.out _ hm;omega)
 replace b1:=b1.trans (fr_ C2 hGV (by omega))
 have hs2:=b1.size
 clear q2 C2 p3 RV AL
 have p4:=PB.cell 4
 go_wp2_with fail
 refine (markMkC B ra rn rc K2 p.rf w2 RR (by omega) ⟨by omega,by omega⟩).mono ?_
 rintro e w3 ⟨rfl,hR3,hg3⟩
 have C3:=fq_ hg3
 replace hE1:=hE1.chg C3 hER
 replace hV2:=hV2.chg C3 hVR (fun x hx ad e=>hvR _ (lY_ hx e)) (fun x hx y hy ad e=>hvR _ (lZ_ hx hy e))
 replace RL:=RL.chg C3 hLRn
 replace PB:=C3.blk PB (fun hm=>by have:=hLR.out _ hm;omega)
 replace KB:=C3.blk KB (fun hm=>by have:=hLR.out _ hm;omega)
 replace b1:=b1.trans (fr_ C3 hGR (by omega))
 have hs3:=b1.size
 clear C3 p4 RR hg3
 have p5:=PB.cell 5
 go_wp2_with fail
 refine (markMkC B la ln lc (K2+4*rn) p.lt w3 RL (by omega) ⟨by omega,by omega⟩).mono ?_
 rintro e w4 ⟨rfl,hL4,hg4⟩
 have C4:=fq_ hg4
 replace hE1:=hE1.chg C4 hEL
 replace hV2:=hV2.chg C4 hVL (fun x hx ad e=>hvL _ (lY_ hx e)) (fun x hx y hy ad e=>hvL _ (lZ_ hx hy e))
 replace hR3:=hR3.chg C4 hRL
 replace b1:=b1.trans (fr_ C4 hGL (by omega))
 replace KB:=C4.blk KB (fun hm=>by have:=hLL.out _ hm;omega)
 clear C4 p5 RL hg4
 go_wp2
 go_returns
 refine ⟨⟨K2+4*rn+4*ln,rfl,⟨p.size,p.next,ea,en,ec,va,vn,vc,ra,rn,rc,la,ln,lc,vr,rfl,hE1,hV2,?_,?_,?_,hvl.out,hil.out,hpn.out,hen,hvn,hrn,hln,?_⟩,by omega⟩,b1,KB⟩
 ·rw [hK2.out];exact hR3
 ·rw [hK2.out];exact hL4
 ·rw [hK2.out]
 ·rw [hK2.out];exact hk
theorem di_ (v:Value) (k:Nat) (w:World) (h:MkPo w v k) :
  Calls Tryz.prog 13 #[v,.int .i64 1] w fun e w'=>e=.returned (.int .i64 ((k:Nat):Int))∧Below w.heap.size w w':=by
 obtain ⟨s,n,ea,en,ec,va,vn,vc,ra,rn,rc,la,ln,lc,vr,rfl,h1,h2,h3,h4,hk,hvl,hil,hpn,hen,hvn,hrn,hln,hK⟩:=h.out
 have hA0:Below w.heap.size w (w.alloc (.cells #[.int .i64 s,.int .i64 n,.slice ea en ec,.slice va vn vc,.slice ra rn rc,.slice la ln lc] 26)):=(Below.refl _ _).alloc (Nat.le_refl _) _
 have PB:=Blk.new w #[.int .i64 s,.int .i64 n,.slice ea en ec,.slice va vn vc,.slice ra rn rc,.slice la ln lc] 26
 replace h1:=h1.below hA0
 replace h2:=h2.below hA0
 replace h3:=h3.below hA0
 replace h4:=h4.below hA0
 have hkg:=iq_ (1+2*en) vr
 obtain ⟨K2,hK2⟩:∃ K,Hid (kVo (1+2*en) vr=K):=⟨_,rfl⟩
 rw [hK2.out] at h3 h4 hk hK hkg
 have hkh:Hid (k=K2+4*rn+4*ln):=hk
 have hvlh:Hid (vr.length=vn):=hvl
 have hilh:Hid (∀ x∈vr,x.irs.length=x.n):=hil
 have hpnh:Hid (∀ x∈vr,x.n<=4194304∧∀ y∈x.irs,y.n<=4194304):=hpn
 clear hk hvl hil hpn
 have q2:=fun (u:World) (hu:MkV u va vr (1+2*en))=>gR_ va vn vc (1+2*en) vr u hu hvlh.out hilh.out (by omega) hpnh.out (by omega) (by rw [hK2.out];omega)
 rw [hK2.out] at q2
 go_enter Tryz.func13,Tryz.ntmps13
 go_wp2_with fail
 generalize w.alloc (.cells #[.int .i64 s,.int .i64 n,.slice ea en ec,.slice va vn vc,.slice ra rn rc,.slice la ln lc] 26)=W0 at *
 refine (heldMkE ea en ec 1 W0 h1 (by omega) ⟨by omega,by omega⟩).mono ?_
 rintro e w1 ⟨rfl,hB1⟩
 replace PB:=PB.below hB1
 replace h2:=h2.below hB1
 replace h3:=h3.below hB1
 replace h4:=h4.below hB1
 replace hA0:=chain hA0 hB1
 clear hB1 h1
 have p3:=PB.cell 3
 have n1:¬ (((1+2*en:Nat):Int)<0):=by omega
 go_wp2_with fail
 refine (q2 w1 h2).mono ?_
 rintro e w2 ⟨rfl,hB1⟩
 replace PB:=PB.below hB1
 replace h3:=h3.below hB1
 replace h4:=h4.below hB1
 replace hA0:=chain hA0 hB1
 clear hB1 h2 p3 q2
 have p4:=PB.cell 4
 have n2:¬ (((K2:Nat):Int)<0):=by omega
 go_wp2_with fail
 refine (heldMkC ra rn rc K2 w2 h3 (by omega) ⟨by omega,by omega⟩).mono ?_
 rintro e w3 ⟨rfl,hB1⟩
 replace PB:=PB.below hB1
 replace h4:=h4.below hB1
 replace hA0:=chain hA0 hB1
 clear hB1 h3 p4
 have p5:=PB.cell 5
 have n3:¬ (((K2+4*rn:Nat):Int)<0):=by omega
 go_wp2_with fail
 refine (heldMkC la ln lc (K2+4*rn) w3 h4 (by omega) ⟨by omega,by omega⟩).mono ?_
 rintro e w4 ⟨rfl,hB1⟩
 replace hA0:=chain hA0 hB1
 clear hB1 h4 p5
 have n4:¬ (((K2+4*rn+4*ln:Nat):Int)<0):=by omega
 rw [<-hkh.out] at n4 ⊢
 go_wp2
 go_returns
 exact ⟨rfl,hA0⟩
end Go.Proofs.YtigldeccfpkdmaaGreatDoor
