/- A line of a pool's text, by the model. A pool read by the model. -/
import Derived.Deep.DeepCutAuto
import Derived.Test.YtigldeccfpkdmaaGreatDoorK02
import Derived.Test.YtigldeccfpkdmaaGreatDoorK35
import Derived.Test.YtigldeccfpkdmaaGreatDoorK15
import Derived.Test.YtigldeccfpkdmaaGreatDoorK36
import Derived.Test.YtigldeccfpkdmaaGreatDoorK37
import Derived.Test.YtigldeccfpkdmaaGreatDoorK16
import Derived.Test.YtigldeccfpkdmaaGreatDoorK22
namespace Go.Proofs.YtigldeccfpkdmaaGreatDoor
open Go Go.RowKit Go.BigFrame
set_option maxHeartbeats 20000000
set_option maxRecDepth 100000
theorem ie_ (B K:Nat) (v:Value) (p:Po) (line:ByteArray) (w:World) (h:PoolM B w v p) (hB:B<=w.heap.size) (hK:K<=60000) (hd:DimM K p) (hl:line.size<=60000) (hgk:grpL (wordQ (wdsA line.data.toList) 0)=3) :
  Calls Tryz.prog 36 #[v,.string line] w fun e w'=>(∃ v',e=.returned v'∧PoolM B w' v' (lineF p line.data.toList))∧Below B w w':=by
 obtain ⟨ea,en,ec,va,vn,vc,ra,rn,rc,la,ln,lc,vr,rfl,E1,V1,C1,C2,hap,AL,N1,N2⟩:=h.out
 clear h
 obtain ⟨ws,hws⟩:∃ ws,Hid (wdsA line.data.toList=ws):=⟨_,rfl⟩
 have kW:=fun (u:World)=>bS_ line u (by omega)
 rw [hws.out] at kW
 have hwn0:Hid (ws≠[]):=by show _≠_;rw [<-hws.out];exact dQ_ _ _
 have hwl:∀ x∈ws.map bA,x.size<=100000:=by
  intro x hx
  obtain ⟨y,hy,rfl⟩:=List.mem_map.1 hx
  rw [<-hws.out] at hy
  have:=bW_ y hy
  rw [Lib.size_eq,af_]
  have h2:=Lib.size_eq line
  omega
 have PB0:=Blk.new w #[.int .i64 p.size,.int .i64 p.next,.slice ea en ec,.slice va vn vc,.slice ra rn rc,.slice la ln lc] 26
 have hA0:Below w.heap.size w ((w.alloc (.cells #[.int .i64 p.size,.int .i64 p.next,.slice ea en ec,.slice va vn vc,.slice ra rn rc,.slice la ln lc] 26)).alloc (.cells #[.int .i64 0,.int .i64 0,.slice none 0 0,.slice none 0 0,.slice none 0 0,.slice none 0 0] 26)):=by go_grown
 have PB:Blk ((w.alloc (.cells #[.int .i64 p.size,.int .i64 p.next,.slice ea en ec,.slice va vn vc,.slice ra rn rc,.slice la ln lc] 26)).alloc (.cells #[.int .i64 0,.int .i64 0,.slice none 0 0,.slice none 0 0,.slice none 0 0,.slice none 0 0] 26)) w.heap.size #[.int .i64 p.size,.int .i64 p.next,.slice ea en ec,.slice va vn vc,.slice ra rn rc,.slice la ln lc] 26:=PB0.below ((Below.refl _ _).alloc (Nat.le_refl _) _)
 have RB:Blk ((w.alloc (.cells #[.int .i64 p.size,.int .i64 p.next,.slice ea en ec,.slice va vn vc,.slice ra rn rc,.slice la ln lc] 26)).alloc (.cells #[.int .i64 0,.int .i64 0,.slice none 0 0,.slice none 0 0,.slice none 0 0,.slice none 0 0] 26)) (w.heap.size+1) #[.int .i64 0,.int .i64 0,.slice none 0 0,.slice none 0 0,.slice none 0 0,.slice none 0 0] 26:=Blk.new' _ _ _ _ (by simp)
 clear PB0
 go_enter Tryz.func36,Tryz.ntmps36
 go_wp2_with fail
 generalize (w.alloc (.cells #[.int .i64 p.size,.int .i64 p.next,.slice ea en ec,.slice va vn vc,.slice ra rn rc,.slice la ln lc] 26)).alloc (.cells #[.int .i64 0,.int .i64 0,.slice none 0 0,.slice none 0 0,.slice none 0 0,.slice none 0 0] 26)=W0 at *
 refine (kW W0).mono ?_
 rintro e w1 ⟨⟨wa,wn,wq,rfl,hwn,R1⟩,hB1⟩
 have hz0:Hid (w.heap.size+1<W0.heap.size):=RB.lt
 replace PB:=PB.below hB1
 replace RB:=RB.below hB1
 replace hB1:=chain hA0 hB1
 clear hA0 kW
 replace E1:=E1.below hB1
 replace V1:=V1.below hB1
 replace C1:=C1.below hB1
 replace C2:=C2.below hB1
 replace AL:Al2 (VoR w1 B) vr p.vs:=AL.imp fun _ _ _ h=>h.below hB1
 have hvn:Hid (vr.length=vn):=V1.sl.len
 have hvk:vn<=60000:=by rw [<-hvn.out,AL.len];exact Nat.le_trans hd.vs hK
 obtain ⟨b0,b1,b2,b3,b4,b5⟩:=PB.sixM
 go_upto_if 22 with fail
 obtain ⟨xv,hxv⟩:∃ xv,Hid (lastX vr=xv):=⟨_,rfl⟩
 go_cut [7] (fun x wc=>x=.int .i64 xv∧wc=w1)
 case first=>
  rcases Nat.eq_zero_or_pos vn with h0 | h0
  ·subst h0
   have hx:xv=-1:=by rw [<-hxv.out,lastX,List.eq_nil_of_length_eq_zero hvn.out];rfl
   go_wp2
   go_meet
   exact ⟨by rw [hx],rfl⟩
  ·obtain ⟨k,rfl⟩:∃ k,vn=k+1:=⟨vn-1,by omega⟩
   obtain ⟨l',r,rfl,hlk⟩:=bz_ hvn.out
   have hr:(l'++[r])[k]?=some r:=by rw [<-hlk];simp
   obtain ⟨vb,rfl,hvb,c3⟩:=e7_ V1 hr
   have hx:Hid (xv=(r.n:Int)-1):=by show _=_;rw [<-hxv.out,lastX];simp
   have hrn:r.n<=60000:=by
    obtain ⟨m',y,hm,_,hv⟩:=AL.lastL
    have h1:=(hd.its y (by rw [hm];simp)).1
    rw [<-hv.its.len,hv.rows.sl.len] at h1
    omega
   have hkk:((k+1:Nat):Int)-1=k:=by omega
   go_wp2
   go_meet
   exact ⟨by rw [hx.out],rfl⟩
 case rest=>
  obtain ⟨rfl,rfl⟩:=hcut
  have kN:=fun (i:Nat) (x:World) (hx:Below wc.heap.size wc x)=>aJ_ wa wn wq (ws.map bA) i x (R1.sl.below hx) hwl
  have kW:=fun (i:Nat) (x:World) (hx:Below wc.heap.size wc x)=>aY_ wa wn wq (ws.map bA) i x (R1.sl.below hx)
  have k1:=kN 1
  have k2:=kN 2
  have k3:=kW 3
  have k4:=kW 4
  simp only [b7_] at k1 k2
  simp only [b8_] at k3 k4
  obtain ⟨n1,hn1⟩:∃ z,Hid (numQ ws 1=z):=⟨_,rfl⟩
  obtain ⟨n2,hn2⟩:∃ z,Hid (numQ ws 2=z):=⟨_,rfl⟩
  obtain ⟨t3,ht3⟩:∃ z,Hid (bA (wordQ ws 3)=z):=⟨_,rfl⟩
  obtain ⟨t4,ht4⟩:∃ z,Hid (bA (wordQ ws 4)=z):=⟨_,rfl⟩
  rw [hn1.out] at k1
  rw [hn2.out] at k2
  rw [ht3.out] at k3
  rw [ht4.out] at k4
  have ht4s:t4.size<=100000:=by
   rw [<-ht4.out]
   have:=b8_ ws 4
   rw [<-this]
   unfold idxW
   cases hc:(ws.map bA)[4]? with
   |none=>show (0:Nat)<=_;omega
   |some x=>exact hwl x (List.mem_of_getElem? hc)
  obtain ⟨n4,hn4⟩:∃ z,Hid ((numP (wordQ ws 4)).getD 0=z):=⟨_,rfl⟩
  have hi4:Hid (intV (numP t4.data.toList)=.tuple #[.int .i64 n4,.bool (numP t4.data.toList).isSome]):=by
   show _=_
   rw [<-hn4.out,<-ht4.out,af_]
   cases numP (wordQ ws 4)<;>rfl
  obtain ⟨k0,wr,hk0⟩:∃ k0 r,ws=k0::r:=by
   cases hc:ws with
   |nil=>exact absurd hc hwn0.out
   |cons a r=>exact ⟨a,r,rfl⟩
  obtain ⟨wb,wo,sx,rfl,hsx,cw⟩:=es_ R1.sl (k:=0) (by rw [<-R1.sl.len,hk0];simp)
  have hsx2:Hid (sx=bA k0):=by show _=_;rw [hk0] at hsx;exact (Option.some.inj hsx).symm
  clear kN kW hsx
  go_wp2_with fail
  refine (k1 _ (Below.refl _ _)).mono ?_
  rintro e u ⟨rfl,hu⟩
  subst hu
  go_wp2_with fail
  refine (k2 _ (Below.refl _ _)).mono ?_
  rintro e u ⟨rfl,hu⟩
  subst hu
  go_wp2_with fail
  refine (k3 _ (Below.refl _ _)).mono ?_
  rintro e u ⟨rfl,hu⟩
  subst hu
  go_wp2_with fail
  have hA2:Below u.heap.size u (u.alloc (.cells #[.int .i64 n1,.int .i64 n2,.string t3,.int .i64 0] 134)):=by go_grown
  have CB:=Blk.new u #[.int .i64 n1,.int .i64 n2,.string t3,.int .i64 0] 134
  generalize u.alloc (.cells #[.int .i64 n1,.int .i64 n2,.string t3,.int .i64 0] 134)=W2 at *
  refine (k4 _ hA2).mono ?_
  rintro e x ⟨rfl,hu⟩
  obtain rfl:W2=x:=hu.symm
  go_wp2_with fail
  refine (br_ t4 _ (by omega)).mono ?_
  rintro e x' ⟨rfl,hu⟩
  obtain rfl:W2=x':=hu.symm
  rw [hi4.out]
  have y3:=CB.cell 3
  have f3:=CB.frozen 3
  go_upto_region 8 with fail
  have hg3:W2.grownBy (W2.setCell ⟨u.heap.size,3,none⟩ (.int .i64 n4)) (some u.heap.size):=ac_ (World.grownBy.refl _ _) _ _
  have CB3:Blk (W2.setCell ⟨u.heap.size,3,none⟩ (.int .i64 n4)) u.heap.size #[.int .i64 n1,.int .i64 n2,.string t3,.int .i64 n4] 134:=by simpa using CB.set 3 (.int .i64 n4)
  have hA3:=am_ hA2 hg3 (Nat.le_refl _)
  generalize W2.setCell ⟨u.heap.size,3,none⟩ (.int .i64 n4)=W3 at *
  clear hg3 CB y3 f3 hA2 W2 b0 b1 b2 b3 b4 b5
  replace PB:=PB.below hA3
  replace RB:=RB.below hA3
  replace E1:=E1.below hA3
  replace V1:=V1.below hA3
  replace C1:=C1.below hA3
  replace C2:=C2.below hA3
  replace R1:=R1.below hA3
  replace AL:Al2 (VoR W3 B) vr p.vs:=AL.imp fun _ _ _ h=>h.below hA3
  replace cw:=bcell hA3 cw
  rw [Nat.add_zero] at cw
  have hwp:0<wn:=by rw [<-R1.sl.len,hk0];simp
  replace hB1:=chain hB1 hA3
  clear hA3
  have M3:PoolM B W3 (.agg #[.int .i64 p.size,.int .i64 p.next,.slice ea en ec,.slice va vn vc,.slice ra rn rc,.slice la ln lc]) p:=⟨ea,en,ec,va,vn,vc,ra,rn,rc,la,ln,lc,vr,rfl,E1,V1,C1,C2,hap,AL,N1,N2⟩
  have hB3:Below B w W3:=hB1.mono hB
  have hF:Hid (lineF p line.data.toList=lineG p k0 ws line.data.toList):=by
   show _=_
   unfold lineF
   rw [hws.out,hk0]
   rfl
  replace hgk:grpL k0=3:=by rw [hws.out,hk0] at hgk;exact hgk
  have hsl:sx.toList=k0:=by rw [hsx2.out,ByteArray.toList_eq,af_]
  by_cases hk:k0=poolK
  ·rw [hk] at hgk
   exact absurd hgk (by decide)
  have hkpoolK:¬ k0=poolK:=hk
  by_cases hkexK:k0=exK
  ·skip
   rw [hkexK] at hgk
   exact absurd hgk (by decide)
  by_cases hkvolK:k0=volK
  ·skip
   rw [hkvolK] at hgk
   exact absurd hgk (by decide)
  by_cases hkfileK:k0=fileK
  ·skip
   rw [hkfileK] at hgk
   exact absurd hgk (by decide)
  by_cases hkpartK:k0=partK
  ·skip
   rw [hkpartK] at hgk
   exact absurd hgk (by decide)
  by_cases hkrefK:k0=refK
  ·skip
   have epoolK:¬ sx.toList=[112,111,111,108]:=fun e=>hkpoolK (by rw [<-hsl,e];rfl)
   have eexK:¬ sx.toList=[101,120,116,101,110,116]:=fun e=>hkexK (by rw [<-hsl,e];rfl)
   have evolK:¬ sx.toList=[118,111,108,117,109,101]:=fun e=>hkvolK (by rw [<-hsl,e];rfl)
   have efileK:¬ sx.toList=[102,105,108,101]:=fun e=>hkfileK (by rw [<-hsl,e];rfl)
   have epartK:¬ sx.toList=[112,97,114,116]:=fun e=>hkpartK (by rw [<-hsl,e];rfl)
   have erefK:sx.toList=[114,101,102]:=by rw [hsl,hkrefK];rfl
   have hP:Hid (lineF p line.data.toList={p with rf:=p.rf++[(⟨⟨n1,n2,t3⟩,n4⟩:Ct)]}):=by
    show _=_
    rw [hF.out]
    unfold lineG
    rw [if_neg hkpoolK,if_neg hkexK,if_neg hkvolK,if_neg hkfileK,if_neg hkpartK,if_pos hkrefK]
    unfold ctQ;rw [hn1.out,hn2.out,ht3.out,hn4.out]
   clear hsl hF
   have hdk:rn<=60000:=by rw [<-C1.sl.len];exact Nat.le_trans hd.rf hK
   obtain ⟨i0,hi0,hz0,hz1,hz2⟩:=info_parts infMC
   obtain ⟨c0,c1,c2,c3⟩:=cbx CB3
   obtain ⟨p0,p1,p2,p3,p4,p5⟩:=PB.sixM
   have q4:=PB.frozen 4
   have hWA:Below W3.heap.size W3 (W3.alloc (.cells (Ct.cs (⟨⟨n1,n2,t3⟩,n4⟩:Ct)).toArray tC)):=(Below.refl _ _).alloc (Nat.le_refl _) _
   go_wp2_with (at_builtin;refine al_ rfl (fun K hK=>bh_ _ _ 24 rfl B tC i0 (.agg #[.int .i64 0,.int .i64 0,.string .empty,.int .i64 0]) 40 Tryz.underlying24 hi0 hz0 hz1 hz2 rfl (by decide) do_ hW_ ra rn rc _ rfl (C1.alloc _) _ 1 1 [(⟨⟨n1,n2,t3⟩,n4⟩:Ct)] rfl (bi_ do_ _ (⟨⟨n1,n2,t3⟩,n4⟩:Ct) _ _ rfl) (fun ad h=>(by cases h;rfl)) (fun h=>(by cases h)) (rn+1) rfl (by unfold maxLen;omega) (by omega) (by have:=hB3.size;simp;omega) (fun a4 cap4 w4 R4 hg4 hf4=>hK _ _ (HeldM.out ?_))))
   refine HeldM.mk ?_
   have hty:=(C1.below hWA).rowTy (m:=rn) (k:=rc)
   have E5:=(E1.below hWA).ty hg4 hty (by decide)
   have V5:=(V1.below hWA).ty hg4 hty (by decide)
   have AL5:Al2 (VoR w4 B) vr p.vs:=AL.imp fun _ _ _ h=>(h.below hWA).ty hg4 hty (by decide) (by decide)
   have O5:=(C2.below hWA).off hg4 (fun ad e=>lo_ (fun ad' e'=>hap ad' ad e' e))
   have PB5:=(PB.below hWA).ty hg4 hty (by decide)
   have RB5:=(RB.below hWA).ty hg4 hty (by decide)
   have hB5:Below B w w4:=(hB3.alloc (Nat.le_trans hB hB3.size) _).grown hg4 (by have:=hB3.size;simp;omega) (bj_ fun ad e=>(C1.block ad e).1)
   have hap5:∀ x y,a4=some x->la=some y->x.block≠y.block:=fun x y hx hy=>by
    rcases hf4 x hx with ⟨ad,e,q⟩ | q
    ·rw [<-q];exact hap ad y e hy
    ·have:=(C2.block y hy).2;simp at q;omega
   have M5:PoolM B w4 (.agg #[.int .i64 p.size,.int .i64 p.next,.slice ea en ec,.slice va vn vc,.slice a4 (rn+1) cap4,.slice la ln lc]) {p with rf:=p.rf++[(⟨⟨n1,n2,t3⟩,n4⟩:Ct)]}:=⟨ea,en,ec,va,vn,vc,a4,rn+1,cap4,la,ln,lc,vr,rfl,E5,V5,R4,O5,hap5,AL5,N1,N2⟩
   clear hty hg4 hf4 hWA hap5 E5 V5 AL5 O5 R4 p0 p1 p2 p3 p4 p5 q4 c0 c1 c2 c3
   have p4:=PB5.cell 4
   have q4:=PB5.frozen 4
   go_upto_region 28 with fail
   obtain ⟨PB6,M6,hB6,hg6⟩:=cv_ PB5 hB5 hB M5 4 (.slice a4 (rn+1) cap4)
   have RB6:=RB5.grown hg6 (by omega)
   simp only [List.setIfInBounds_toArray,List.set_cons_zero,List.set_cons_succ] at PB6
   generalize w4.setCell ⟨w.heap.size,4,none⟩ (.slice a4 (rn+1) cap4)=W6 at *
   clear hg6 p4 q4 cw
   obtain ⟨v0,v1,v2,v3,v4,v5⟩:=PB6.sixM
   obtain ⟨r0,r1,r2,r3,r4,r5⟩:=RB6.sixM
   obtain ⟨g0,g1,g2,g3,g4,g5⟩:=fz6 RB6
   go_wp2
   obtain ⟨E8,M8,hB8⟩:=an_ RB6 hB6 (by omega) (M6)
   change bodyPost _ _ _ _ _ (put6 W6 (w.heap.size+1) (.int .i64 p.size) (.int .i64 p.next) (.slice ea en ec) (.slice va vn vc) (.slice a4 (rn+1) cap4) (.slice la ln lc))
   generalize put6 W6 (w.heap.size+1) (.int .i64 p.size) (.int .i64 p.next) (.slice ea en ec) (.slice va vn vc) (.slice a4 (rn+1) cap4) (.slice la ln lc)=W8 at *
   refine bodyPost_ret (results_cell_row rfl _ W8 (w.heap.size+1) _ _ _ _ rfl E8 Tryz.underlying26 rfl (by kernel_rfl)) rfl ?_
   exact ⟨⟨_,rfl,by rw [hP.out];exact M8⟩,hB8⟩
  by_cases hklateK:k0=lateK
  ·skip
   have epoolK:¬ sx.toList=[112,111,111,108]:=fun e=>hkpoolK (by rw [<-hsl,e];rfl)
   have eexK:¬ sx.toList=[101,120,116,101,110,116]:=fun e=>hkexK (by rw [<-hsl,e];rfl)
   have evolK:¬ sx.toList=[118,111,108,117,109,101]:=fun e=>hkvolK (by rw [<-hsl,e];rfl)
   have efileK:¬ sx.toList=[102,105,108,101]:=fun e=>hkfileK (by rw [<-hsl,e];rfl)
   have epartK:¬ sx.toList=[112,97,114,116]:=fun e=>hkpartK (by rw [<-hsl,e];rfl)
   have erefK:¬ sx.toList=[114,101,102]:=fun e=>hkrefK (by rw [<-hsl,e];rfl)
   have elateK:sx.toList=[108,97,116,101]:=by rw [hsl,hklateK];rfl
   have hP:Hid (lineF p line.data.toList={p with lt:=p.lt++[(⟨⟨n1,n2,t3⟩,n4⟩:Ct)]}):=by
    show _=_
    rw [hF.out]
    unfold lineG
    rw [if_neg hkpoolK,if_neg hkexK,if_neg hkvolK,if_neg hkfileK,if_neg hkpartK,if_neg hkrefK,if_pos hklateK]
    unfold ctQ;rw [hn1.out,hn2.out,ht3.out,hn4.out]
   clear hsl hF
   have hdk:ln<=60000:=by rw [<-C2.sl.len];exact Nat.le_trans hd.lt hK
   obtain ⟨i0,hi0,hz0,hz1,hz2⟩:=info_parts infMC
   obtain ⟨c0,c1,c2,c3⟩:=cbx CB3
   obtain ⟨p0,p1,p2,p3,p4,p5⟩:=PB.sixM
   have q4:=PB.frozen 5
   have hWA:Below W3.heap.size W3 (W3.alloc (.cells (Ct.cs (⟨⟨n1,n2,t3⟩,n4⟩:Ct)).toArray tC)):=(Below.refl _ _).alloc (Nat.le_refl _) _
   go_wp2_with (at_builtin;refine al_ rfl (fun K hK=>bh_ _ _ 24 rfl B tC i0 (.agg #[.int .i64 0,.int .i64 0,.string .empty,.int .i64 0]) 40 Tryz.underlying24 hi0 hz0 hz1 hz2 rfl (by decide) do_ hW_ la ln lc _ rfl (C2.alloc _) _ 1 1 [(⟨⟨n1,n2,t3⟩,n4⟩:Ct)] rfl (bi_ do_ _ (⟨⟨n1,n2,t3⟩,n4⟩:Ct) _ _ rfl) (fun ad h=>(by cases h;rfl)) (fun h=>(by cases h)) (ln+1) rfl (by unfold maxLen;omega) (by omega) (by have:=hB3.size;simp;omega) (fun a4 cap4 w4 R4 hg4 hf4=>hK _ _ (HeldM.out ?_))))
   refine HeldM.mk ?_
   have hty:=(C2.below hWA).rowTy (m:=ln) (k:=lc)
   have E5:=(E1.below hWA).ty hg4 hty (by decide)
   have V5:=(V1.below hWA).ty hg4 hty (by decide)
   have AL5:Al2 (VoR w4 B) vr p.vs:=AL.imp fun _ _ _ h=>(h.below hWA).ty hg4 hty (by decide) (by decide)
   have O5:=(C1.below hWA).off hg4 (fun ad e=>lo_ (fun ad' e'=>(hap ad ad' e e').symm))
   have PB5:=(PB.below hWA).ty hg4 hty (by decide)
   have RB5:=(RB.below hWA).ty hg4 hty (by decide)
   have hB5:Below B w w4:=(hB3.alloc (Nat.le_trans hB hB3.size) _).grown hg4 (by have:=hB3.size;simp;omega) (bj_ fun ad e=>(C2.block ad e).1)
   have hap5:∀ x y,ra=some x->a4=some y->x.block≠y.block:=fun x y hx hy=>by
    rcases hf4 y hy with ⟨ad,e,q⟩ | q
    ·rw [<-q];exact hap x ad hx e
    ·have:=(C1.block x hx).2;simp at q;omega
   have M5:PoolM B w4 (.agg #[.int .i64 p.size,.int .i64 p.next,.slice ea en ec,.slice va vn vc,.slice ra rn rc,.slice a4 (ln+1) cap4]) {p with lt:=p.lt++[(⟨⟨n1,n2,t3⟩,n4⟩:Ct)]}:=⟨ea,en,ec,va,vn,vc,ra,rn,rc,a4,ln+1,cap4,vr,rfl,E5,V5,O5,R4,hap5,AL5,N1,N2⟩
   clear hty hg4 hf4 hWA hap5 E5 V5 AL5 O5 R4 p0 p1 p2 p3 p4 p5 q4 c0 c1 c2 c3
   have p4:=PB5.cell 5
   have q4:=PB5.frozen 5
   go_upto_region 28 with fail
   obtain ⟨PB6,M6,hB6,hg6⟩:=cv_ PB5 hB5 hB M5 5 (.slice a4 (ln+1) cap4)
   have RB6:=RB5.grown hg6 (by omega)
   simp only [List.setIfInBounds_toArray,List.set_cons_zero,List.set_cons_succ] at PB6
   generalize w4.setCell ⟨w.heap.size,5,none⟩ (.slice a4 (ln+1) cap4)=W6 at *
   clear hg6 p4 q4 cw
   obtain ⟨v0,v1,v2,v3,v4,v5⟩:=PB6.sixM
   obtain ⟨r0,r1,r2,r3,r4,r5⟩:=RB6.sixM
   obtain ⟨g0,g1,g2,g3,g4,g5⟩:=fz6 RB6
   go_wp2
   obtain ⟨E8,M8,hB8⟩:=an_ RB6 hB6 (by omega) (M6)
   change bodyPost _ _ _ _ _ (put6 W6 (w.heap.size+1) (.int .i64 p.size) (.int .i64 p.next) (.slice ea en ec) (.slice va vn vc) (.slice ra rn rc) (.slice a4 (ln+1) cap4))
   generalize put6 W6 (w.heap.size+1) (.int .i64 p.size) (.int .i64 p.next) (.slice ea en ec) (.slice va vn vc) (.slice ra rn rc) (.slice a4 (ln+1) cap4)=W8 at *
   refine bodyPost_ret (results_cell_row rfl _ W8 (w.heap.size+1) _ _ _ _ rfl E8 Tryz.underlying26 rfl (by kernel_rfl)) rfl ?_
   exact ⟨⟨_,rfl,by rw [hP.out];exact M8⟩,hB8⟩
  rw [grpL,if_neg hkpoolK,if_neg hkexK,if_neg hkvolK,if_neg hkfileK,if_neg hkpartK,if_neg hkrefK,if_neg hklateK] at hgk
  exact absurd hgk (by decide)
theorem j1_ (B K:Nat) (v:Value) (p:Po) (line:ByteArray) (w:World) (h:PoolM B w v p) (hB:B<=w.heap.size) (hK:K<=60000) (hd:DimM K p) (hl:line.size<=60000) :
  Calls Tryz.prog 36 #[v,.string line] w fun e w'=>(∃ v',e=.returned v'∧PoolM B w' v' (lineF p line.data.toList))∧Below B w w':=by
 obtain ⟨g,hg⟩:∃ g,grpL (wordQ (wdsA line.data.toList) 0)=g:=⟨_,rfl⟩
 have h4:g=0∨g=1∨g=2∨g=3:=by
  rw [<-hg]
  unfold grpL
  repeat' (first | (split) | (simp;done))
 rcases h4 with rfl | rfl | rfl | rfl
 ·exact ib_ B K v p line w h hB hK hd hl hg
 ·exact ic_ B K v p line w h hB hK hd hl hg
 ·exact id_ B K v p line w h hB hK hd hl hg
 ·exact ie_ B K v p line w h hB hK hd hl hg
theorem PoolM.mono {B B':Nat} {w:World} {v:Value} {p:Po} (h:PoolM B w v p) (hb:B'<=B):PoolM B' w v p:=by
 obtain ⟨ea,en,ec,va,vn,vc,ra,rn,rc,la,ln,lc,vr,e,h1,h2,h3,h4,h5,h6,h7,h8⟩:=h.out
 exact ⟨ea,en,ec,va,vn,vc,ra,rn,rc,la,ln,lc,vr,e,h1.mono hb,h2.mono hb,h3.mono hb,h4.mono hb,h5,h6.imp fun _ _ _ h=>⟨h.id,h.nm,h.fx,h.rows.mono hb,h.its.imp fun _ _ _ h=>⟨h.nm,h.ps.mono hb⟩⟩,h7,h8⟩
theorem PoolM.agg6 {B:Nat} {w:World} {v:Value} {p:Po} (h:PoolM B w v p):∃ x0 x1 x2 x3 x4 x5,v=.agg #[x0,x1,x2,x3,x4,x5]:=by
 obtain ⟨ea,en,ec,va,vn,vc,ra,rn,rc,la,ln,lc,vr,e,_⟩:=h.out
 exact ⟨_,_,_,_,_,_,e⟩
theorem aN_ {P:Program} {fn:Func} {p q:Tmp} {ty:TypeId} (h:fn.results=#[.cell p ty,.tmp q]) (tmps:Array Value) (w:World) (g:Nat) (t:TypeId) (cs:Array Value) (fr:Nat×Nat) (d:TypeDesc) (v:Value)
  (hp:tmps.getD p undef=.pointer (some ⟨g,0,none⟩)) (hq:tmps.getD q undef=v) (hg:w.heap[g]?=some (.cells cs t fr))
  (hu:P.underlying ty=some d) (hd:(match d with | .struct _ | .array _ _=>true | _=>false)=true) (hi:(P.info? ty).map (·.size)=some cs.size) :
  (results fn tmps).run P w=.ok (.tuple #[.agg cs,v]) w:=by
 have hp':tmps[p]?.getD undef=.pointer (some ⟨g,0,none⟩):=by simpa using hp
 have hq':tmps[q]?.getD undef=v:=by simpa using hq
 simp [results,h,hp',hq',asAddr,run_loadVar_row w g t ty cs fr d hg hu hd hi]
theorem hF_:∀ (n k k':Nat) (l:By),l.length<=n->l.length<=k->l.length<=k'->lnsB k l=lnsB k' l
 |0,k,k',l,h,_,_=>by
  obtain rfl:=List.eq_nil_of_length_eq_zero (Nat.le_zero.1 h)
  cases k<;>cases k'<;>rfl
 |n+1,k,k',l,h,h1,h2=>by
  by_cases hl:l=[]
  ·subst hl
   cases k<;>cases k'<;>rfl
  ·have hp:0<l.length:=List.length_pos_iff.2 hl
   obtain ⟨k,rfl⟩:∃ j,k=j+1:=⟨k-1,by omega⟩
   obtain ⟨k',rfl⟩:∃ j,k'=j+1:=⟨k'-1,by omega⟩
   rw [lnsB,lnsB,if_neg hl,if_neg hl]
   cases hc:cutB 10 l with
   |none=>rfl
   |some q=>
    have:q.2.length<l.length:=by
     obtain ⟨h1,_⟩:=ay_ (a:=q.1) (b:=q.2) hc
     rw [h1];simp;omega
    simp only
    rw [hF_ n k k' q.2 (by omega) (by omega) (by omega)]
theorem mP_ {l:By} (h:l≠[]) (hc:cutB 10 l=none):lnsB l.length l=none:=by
 have hp:0<l.length:=List.length_pos_iff.2 h
 obtain ⟨k,hk⟩:∃ j,l.length=j+1:=⟨l.length-1,by omega⟩
 rw [hk,lnsB,if_neg h,hc]
theorem mQ_ {l:By} {q:By×By} (h:l≠[]) (hc:cutB 10 l=some q):lnsB l.length l=(lnsB q.2.length q.2).map (q.1::·)∧q.2.length<l.length∧q.1.length<l.length:=by
 obtain ⟨h1,_⟩:=ay_ (a:=q.1) (b:=q.2) hc
 have h2:=congrArg List.length h1
 simp at h2
 obtain ⟨k,hk⟩:∃ j,l.length=j+1:=⟨l.length-1,by omega⟩
 refine ⟨?_,by omega,by omega⟩
 rw [hk,lnsB,if_neg h,hc]
 simp only
 rw [hF_ _ k q.2.length q.2 (Nat.le_refl _) (by omega) (Nat.le_refl _)]
/-- What is answered of a text. -/
noncomputable def ansO (s:By):Option Po:=if s.length<=60000 then readO s else none
theorem mR_:readO []=none:=by rw [h7_];rfl
theorem kX_:textO emptyP=⟨#[]⟩:=by
 unfold textO
 rw [if_neg]
 intro h
 have:=cN_ h
 simp only [poolB,Bool.and_eq_true,decide_eq_true_eq] at h
 have h1:=h.1.1.1.1.1.2
 simp [emptyP] at h1
theorem gH_ (s:ByteArray) (w:World) (hs:s.size<=2000000) (hw:0<w.heap.size) :
  Calls Tryz.prog 9 #[.string s] w fun e w'=>(∃ v,e=.returned (.tuple #[v,.bool (ansO s.data.toList).isSome])∧PoolM w.heap.size w' v ((ansO s.data.toList).getD emptyP))∧Below w.heap.size w w':=by
 obtain ⟨A,hA⟩:∃ A,Hid (ansO s.data.toList=A):=⟨_,rfl⟩
 rw [hA.out]
 have hsz:Hid (s.size=s.data.toList.length):=Lib.size_eq s
 go_enter Tryz.func9,Tryz.ntmps9
 go_wp2_with fail
 go_loopw [5] (fun sv wr=>∃ (rest:ByteArray) (p:Po) (k:Nat) (x0 x1 x2 x3 x4 x5:Value),sv=.string rest∧Blk wr w.heap.size #[.int .i64 0,.int .i64 0,.slice none 0 0,.slice none 0 0,.slice none 0 0,.slice none 0 0] 26∧Blk wr (w.heap.size+1) #[x0,x1,x2,x3,x4,x5] 26∧PoolM (w.heap.size+2) wr (.agg #[x0,x1,x2,x3,x4,x5]) p∧DimM k p∧DimS 60000 p∧k<=60000∧(s.size<=60000->k+rest.size<=s.size)∧(60000<s.size->rest=s∧p=emptyP)∧Hid (s.size<=60000->readM s.data.toList=(lnsB rest.data.toList.length rest.data.toList).map (·.foldl lineF p))∧Below w.heap.size w wr) (fun sv _=>match sv with | .string r=>r.size | _=>0)
 case atStart=>
  refine ⟨s,emptyP,0,_,_,_,_,_,_,rfl,?_,?_,emptyM _ _,hi_.1,hi_.2,by omega,fun _=>by omega,fun _=>⟨rfl,rfl⟩,fun _=>rfl,by go_grown⟩
  ·exact (Blk.new w _ _).below ((Below.refl _ _).alloc (Nat.le_refl _) _)
  ·exact Blk.new' _ _ _ _ (by simp)
 case round=>
  obtain ⟨rest,p,k,x0,x1,x2,x3,x4,x5,rfl,RB,PB,M,hd,hS,hk,hsm,hbg,hI,hB⟩:=hrel
  rcases Nat.lt_or_ge 60000 s.size with hb | hb
  ·obtain ⟨rfl,rfl⟩:=hbg hb
   have hAn:A=none:=by rw [<-hA.out,ansO,if_neg (by have:=hsz.out;omega)]
   subst hAn
   have hne:rest.toList.isEmpty=false:=Bool.eq_false_iff.2 fun e=>by
    rw [ByteArray.toList_eq] at e
    have hsz:=hsz.out
    rw [List.isEmpty_iff.1 e] at hsz
    simp only [List.length_nil] at hsz
    omega
   have hneP:¬ rest.toList=[]:=fun e=>by rw [e] at hne;cases hne
   generalize hp:emptyP=p at *
   obtain ⟨v0,v1,v2,v3,v4,v5⟩:=PB.sixM
   have q:=dF_ (w.heap.size+2) (by omega) _ p wr M.at (hd.dimP hk hS) fk_
   obtain ⟨T,hT⟩:∃ T,Hid (textO p=T):=⟨_,rfl⟩
   rw [hT.out] at q
   go_wp2_with fail
   refine q.mono ?_
   rintro e w1 ⟨rfl,hb1⟩
   clear q v0 v1 v2 v3 v4 v5
   replace RB:=RB.below hb1
   replace PB:=PB.below hb1
   replace M:=M.below hb1
   replace hB:=chain hB hb1
   clear hb1
   obtain ⟨r0,r1,r2,r3,r4,r5⟩:=RB.sixM
   obtain ⟨g0,g1,g2,g3,g4,g5⟩:=fz6 RB
   obtain ⟨v0,v1,v2,v3,v4,v5⟩:=PB.sixM
   have hTn:(T.toList==rest.toList)=false:=by
    rw [beq_eq_false_iff_ne,ByteArray.toList_eq,ByteArray.toList_eq,<-hT.out,<-hp,kX_]
    intro e
    have hsz:=hsz.out
    rw [<-e] at hsz
    simp only [List.length_nil] at hsz
    omega
   go_wp2
   subst hp
   obtain ⟨E8,M8,hB8⟩:=an_ (p:=emptyP) RB hB (Nat.le_refl _) (emptyM w.heap.size w1)
   change bodyPost _ _ _ _ _ (put6 w1 w.heap.size (.int .i64 0) (.int .i64 0) (.slice none 0 0) (.slice none 0 0) (.slice none 0 0) (.slice none 0 0))
   generalize put6 w1 w.heap.size (.int .i64 0) (.int .i64 0) (.slice none 0 0) (.slice none 0 0) (.slice none 0 0) (.slice none 0 0)=W8 at *
   refine bodyPost_ret (aN_ rfl _ W8 w.heap.size _ _ _ _ _ rfl rfl E8 Tryz.underlying26 rfl (by kernel_rfl)) rfl ?_
   exact ⟨⟨_,rfl,M8⟩,hB8⟩
  ·have hIr:=hI.out hb
   by_cases hr:rest.data.toList=[]
   ·have hreP:rest.toList=[]:=by rw [ByteArray.toList_eq,hr]
    have hre:rest.toList.isEmpty=true:=by rw [ByteArray.toList_eq,hr];rfl
    rw [hr] at hIr
    have hRM:readM s.data.toList=some p:=by rw [hIr];rfl
    clear hIr hI
    by_cases hse:s.data.toList=[]
    ·have hseP:s.toList=[]:=by rw [ByteArray.toList_eq,hse]
     have hse2:s.toList.isEmpty=true:=by rw [ByteArray.toList_eq,hse];rfl
     have hAn:A=none:=by rw [<-hA.out,ansO,if_pos (by have:=hsz.out;omega),hse,mR_]
     subst hAn
     obtain ⟨r0,r1,r2,r3,r4,r5⟩:=RB.sixM
     obtain ⟨g0,g1,g2,g3,g4,g5⟩:=fz6 RB
     go_wp2
     obtain ⟨E8,M8,hB8⟩:=an_ (p:=emptyP) RB hB (Nat.le_refl _) (emptyM w.heap.size wr)
     change bodyPost _ _ _ _ _ (put6 wr w.heap.size (.int .i64 0) (.int .i64 0) (.slice none 0 0) (.slice none 0 0) (.slice none 0 0) (.slice none 0 0))
     generalize put6 wr w.heap.size (.int .i64 0) (.int .i64 0) (.slice none 0 0) (.slice none 0 0) (.slice none 0 0) (.slice none 0 0)=W8 at *
     refine bodyPost_ret (aN_ rfl _ W8 w.heap.size _ _ _ _ _ rfl rfl E8 Tryz.underlying26 rfl (by kernel_rfl)) rfl ?_
     exact ⟨⟨_,rfl,M8⟩,hB8⟩
    ·have hseP:¬ s.toList=[]:=by rw [ByteArray.toList_eq];exact hse
     have hse2:s.toList.isEmpty=false:=Bool.eq_false_iff.2 fun e=>hse (by rw [ByteArray.toList_eq] at e;exact List.isEmpty_iff.1 e)
     have hAe:Hid (A=if textO p=s then some p else none):=by
      show _=_
      rw [<-hA.out,ansO,if_pos (by have:=hsz.out;omega),lC_ s hse,hRM]
      rfl
     clear hRM
     obtain ⟨v0,v1,v2,v3,v4,v5⟩:=PB.sixM
     have q:=dF_ (w.heap.size+2) (by omega) _ p wr M.at (hd.dimP hk hS) fk_
     obtain ⟨T,hT⟩:∃ T,Hid (textO p=T):=⟨_,rfl⟩
     rw [hT.out] at q
     go_wp2_with fail
     refine q.mono ?_
     rintro e w1 ⟨rfl,hb1⟩
     clear q v0 v1 v2 v3 v4 v5
     replace RB:=RB.below hb1
     replace PB:=PB.below hb1
     replace M:=M.below hb1
     replace hB:=chain hB hb1
     clear hb1
     obtain ⟨r0,r1,r2,r3,r4,r5⟩:=RB.sixM
     obtain ⟨g0,g1,g2,g3,g4,g5⟩:=fz6 RB
     obtain ⟨v0,v1,v2,v3,v4,v5⟩:=PB.sixM
     rw [hT.out] at hAe
     by_cases hTs:T=s
     ·have hTn:(T.toList==s.toList)=true:=by rw [hTs];simp
      rw [if_pos hTs] at hAe
      have:=hAe.out
      subst this
      obtain ⟨ea,en,ec,va,vn,vc,ra,rn,rc,la,ln,lc,vr,ev,_⟩:=M.out
      cases ev
      go_wp2
      obtain ⟨E8,M8,hB8⟩:=an_ RB hB (Nat.le_refl _) (M.mono (by omega))
      change bodyPost _ _ _ _ _ (put6 w1 w.heap.size (.int .i64 p.size) (.int .i64 p.next) (.slice ea en ec) (.slice va vn vc) (.slice ra rn rc) (.slice la ln lc))
      generalize put6 w1 w.heap.size (.int .i64 p.size) (.int .i64 p.next) (.slice ea en ec) (.slice va vn vc) (.slice ra rn rc) (.slice la ln lc)=W8 at *
      refine bodyPost_ret (aN_ rfl _ W8 w.heap.size _ _ _ _ _ rfl rfl E8 Tryz.underlying26 rfl (by kernel_rfl)) rfl ?_
      exact ⟨⟨_,rfl,M8⟩,hB8⟩
     ·have hTn:(T.toList==s.toList)=false:=by
       rw [beq_eq_false_iff_ne,ByteArray.toList_eq,ByteArray.toList_eq]
       exact fun e=>hTs (ByteArray.ext (Array.ext' e))
      rw [if_neg hTs] at hAe
      have:=hAe.out
      subst this
      go_wp2
      obtain ⟨E8,M8,hB8⟩:=an_ (p:=emptyP) RB hB (Nat.le_refl _) (emptyM w.heap.size w1)
      change bodyPost _ _ _ _ _ (put6 w1 w.heap.size (.int .i64 0) (.int .i64 0) (.slice none 0 0) (.slice none 0 0) (.slice none 0 0) (.slice none 0 0))
      generalize put6 w1 w.heap.size (.int .i64 0) (.int .i64 0) (.slice none 0 0) (.slice none 0 0) (.slice none 0 0) (.slice none 0 0)=W8 at *
      refine bodyPost_ret (aN_ rfl _ W8 w.heap.size _ _ _ _ _ rfl rfl E8 Tryz.underlying26 rfl (by kernel_rfl)) rfl ?_
      exact ⟨⟨_,rfl,M8⟩,hB8⟩
   ·have hreP:¬ rest.toList=[]:=by rw [ByteArray.toList_eq];exact hr
    have hre:rest.toList.isEmpty=false:=Bool.eq_false_iff.2 fun e=>hr (by rw [ByteArray.toList_eq] at e;exact List.isEmpty_iff.1 e)
    have hrz:Hid (rest.size=rest.data.toList.length):=Lib.size_eq rest
    have hks:=hsm hb
    go_wp2_with fail
    refine (b0_ 10 rest wr (by omega)).mono ?_
    rintro e w1 ⟨rfl,hb1⟩
    replace RB:=RB.below hb1
    replace PB:=PB.below hb1
    replace M:=M.below hb1
    replace hB:=chain hB hb1
    clear hb1
    cases hc:cutB 10 rest.data.toList with
    |none=>
     have hv:cutV 10 rest=.tuple #[.string rest,.string ⟨#[]⟩,.bool false]:=by unfold cutV;rw [hc]
     have hAn:A=none:=by
      rw [<-hA.out,ansO,if_pos (by have:=hsz.out;omega),lC_ s (by intro e;have hsz:=hsz.out;rw [e] at hsz;simp only [List.length_nil] at hsz;rw [hrz.out] at hks;have:=List.length_pos_iff.2 hr;omega),hIr,mP_ hr hc]
      rfl
     subst hAn
     rw [hv]
     clear hv hc hI hIr
     obtain ⟨r0,r1,r2,r3,r4,r5⟩:=RB.sixM
     obtain ⟨g0,g1,g2,g3,g4,g5⟩:=fz6 RB
     go_wp2
     obtain ⟨E8,M8,hB8⟩:=an_ (p:=emptyP) RB hB (Nat.le_refl _) (emptyM w.heap.size w1)
     change bodyPost _ _ _ _ _ (put6 w1 w.heap.size (.int .i64 0) (.int .i64 0) (.slice none 0 0) (.slice none 0 0) (.slice none 0 0) (.slice none 0 0))
     generalize put6 w1 w.heap.size (.int .i64 0) (.int .i64 0) (.slice none 0 0) (.slice none 0 0) (.slice none 0 0) (.slice none 0 0)=W8 at *
     refine bodyPost_ret (aN_ rfl _ W8 w.heap.size _ _ _ _ _ rfl rfl E8 Tryz.underlying26 rfl (by kernel_rfl)) rfl ?_
     exact ⟨⟨_,rfl,M8⟩,hB8⟩
    |some q=>
     have hv:cutV 10 rest=.tuple #[.string (bA q.1),.string (bA q.2),.bool true]:=by unfold cutV;rw [hc]
     obtain ⟨hq1,hq2,hq3⟩:=mQ_ hr hc
     rw [hq1] at hIr
     obtain ⟨line,hln⟩:∃ x,Hid (bA q.1=x):=⟨_,rfl⟩
     obtain ⟨more,hmo⟩:∃ x,Hid (bA q.2=x):=⟨_,rfl⟩
     have hl1:line.data.toList=q.1:=by rw [<-hln.out,af_]
     have hm1:more.data.toList=q.2:=by rw [<-hmo.out,af_]
     have hlz:line.size<=60000:=by rw [Lib.size_eq,hl1];have:=hrz.out;omega
     have hmz:more.size+1<=rest.size:=by rw [Lib.size_eq,hm1,hrz.out];omega
     have hI2:Hid (s.size<=60000->readM s.data.toList=(lnsB more.data.toList.length more.data.toList).map (·.foldl lineF (lineF p line.data.toList))):=fun _=>by
      rw [hIr,hm1,hl1]
      cases lnsB q.2.length q.2<;>rfl
     have hd2:=hd.line line.data.toList
     have hS2:=hS.line line.data.toList (by rw [<-Lib.size_eq];exact hlz)
     rw [hln.out,hmo.out] at hv
     rw [hv]
     clear hv hc hI hIr hq1 hln hmo hl1 hm1
     obtain ⟨v0,v1,v2,v3,v4,v5⟩:=PB.sixM
     have hw1:=hB.size
     have hwp:=PB.lt
     go_wp2_with fail
     refine (j1_ (w.heap.size+2) k _ p line w1 M (by omega) (by omega) hd hlz).mono ?_
     rintro e w2 ⟨⟨v',rfl,M2⟩,hb2⟩
     obtain ⟨y0,y1,y2,y3,y4,y5,rfl⟩:=M2.agg6
     clear v0 v1 v2 v3 v4 v5
     have RB2:Blk w2 w.heap.size #[.int .i64 0,.int .i64 0,.slice none 0 0,.slice none 0 0,.slice none 0 0,.slice none 0 0] 26:=(hb2.block _ (by omega)).trans RB
     have PB2:Blk w2 (w.heap.size+1) #[x0,x1,x2,x3,x4,x5] 26:=(hb2.block _ (by omega)).trans PB
     obtain ⟨ea,en,ec,va,vn,vc,ra,rn,rc,la,ln,lc,vr,ev,_⟩:=M2.out
     obtain ⟨P0,hP0⟩:∃ P0,Hid (lineF p line.data.toList=P0):=⟨_,rfl⟩
     rw [hP0.out] at M2 hd2 hS2 hI2 ev
     cases ev
     have hB2:Below w.heap.size w w2:=hB.trans (hb2.mono (by omega))
     clear RB PB hB M hb2
     obtain ⟨v0,v1,v2,v3,v4,v5⟩:=PB2.sixM
     obtain ⟨g0,g1,g2,g3,g4,g5⟩:=fz6 PB2
     go_wp2
     have hg9:w2.grownBy (put6 w2 (w.heap.size+1) (.int .i64 P0.size) (.int .i64 P0.next) (.slice ea en ec) (.slice va vn vc) (.slice ra rn rc) (.slice la ln lc)) (some (w.heap.size+1)):=ac_ (ac_ (ac_ (ac_ (ac_ (ac_ (World.grownBy.refl _ _) _ _) _ _) _ _) _ _) _ _) _ _
     obtain ⟨P9,_,hB9⟩:=an_ (p:=P0) PB2 hB2 (by omega) (M2.mono (by omega))
     have M9:=M2.box hg9 PB2
     have R9:=RB2.grown hg9 (by simp)
     go_roundw
     case rel=>exact ⟨more,P0,k+1,_,_,_,_,_,_,rfl,R9,P9,M9,hd2,hS2,by omega,fun _=>by omega,fun h=>absurd h (by omega),hI2,hB9⟩
     case measure=>simp;omega
end Go.Proofs.YtigldeccfpkdmaaGreatDoor
