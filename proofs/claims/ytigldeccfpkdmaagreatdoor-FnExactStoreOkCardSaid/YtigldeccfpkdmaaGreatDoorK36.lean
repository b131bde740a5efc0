/- A line of a pool's text, by the model. -/
import Derived.Deep.DeepCutAuto
import Derived.Test.YtigldeccfpkdmaaGreatDoorK02
import Derived.Test.YtigldeccfpkdmaaGreatDoorK35
import Derived.Test.YtigldeccfpkdmaaGreatDoorK15
namespace Go.Proofs.YtigldeccfpkdmaaGreatDoor
open Go Go.RowKit Go.BigFrame
set_option maxHeartbeats 20000000
set_option maxRecDepth 100000
theorem ic_ (B K:Nat) (v:Value) (p:Po) (line:ByteArray) (w:World) (h:PoolM B w v p) (hB:B<=w.heap.size) (hK:K<=60000) (hd:DimM K p) (hl:line.size<=60000) (hgk:grpL (wordQ (wdsA line.data.toList) 0)=1) :
  Calls Tryz.prog 36 #[v,.string line] w fun e w'=>(∃ v',e=.returned v'∧PoolM B w' v' (lineF p line.data.toList))∧Below B w w':=by
 obtain ⟨ea,en,ec,va,vn,vc,ra,rn,rc,la,ln,lc,vr,rfl,E1,V1,C1,C2,hap,AL,N1,N2⟩:=h.out
 clear h
 obtain ⟨ws,hws⟩:∃ ws,Hid (wdsA line.data.toList=ws):=⟨_,rfl⟩
 have kW:=fun (u:World)=>bS_ line u (by omega)
 rw [hws.out] at kW
 have hwn0:Hid (ws≠[]):=by show _≠_;rw [<-hws.out];exact dQ_ _ _
 have hwl:∀ x∈ws.map bA,x.size<=100000:=by
  intro x hx
  obtain ⟨y,hy,rfl⟩:=List.mem_map.1 hx
  rw [<-hws.out] at hy
  have:=bW_ y hy
  rw [Lib.size_eq,af_]
  have h2:=Lib.size_eq line
  omega
 have PB0:=Blk.new w #[.int .i64 p.size,.int .i64 p.next,.slice ea en ec,.slice va vn vc,.slice ra rn rc,.slice la ln lc] 26
 have hA0:Below w.heap.size w ((w.alloc (.cells #[.int .i64 p.size,.int .i64 p.next,.slice ea en ec,.slice va vn vc,.slice ra rn rc,.slice la ln lc] 26)).alloc (.cells #[.int .i64 0,.int .i64 0,.slice none 0 0,.slice none 0 0,.slice none 0 0,.slice none 0 0] 26)):=by go_grown
 have PB:Blk ((w.alloc (.cells #[.int .i64 p.size,.int .i64 p.next,.slice ea en ec,.slice va vn vc,.slice ra rn rc,.slice la ln lc] 26)).alloc (.cells #[.int .i64 0,.int .i64 0,.slice none 0 0,.slice none 0 0,.slice none 0 0,.slice none 0 0] 26)) w.heap.size #[.int .i64 p.size,.int .i64 p.next,.slice ea en ec,.slice va vn vc,.slice ra rn rc,.slice la ln lc] 26:=PB0.below ((Below.refl _ _).alloc (Nat.le_refl _) _)
 have RB:Blk ((w.alloc (.cells #[.int .i64 p.size,.int .i64 p.next,.slice ea en ec,.slice va vn vc,.slice ra rn rc,.slice la ln lc] 26)).alloc (.cells #[.int .i64 0,.int .i64 0,.slice none 0 0,.slice none 0 0,.slice none 0 0,.slice none 0 0] 26)) (w.heap.size+1) #[.int .i64 0,.int .i64 0,.slice none 0 0,.slice none 0 0,.slice none 0 0,.slice none 0 0] 26:=Blk.new' _ _ _ _ (by simp)
 clear PB0
 go_enter Tryz.func36,Tryz.ntmps36
 go_wp2_with fail
 generalize (w.alloc (.cells #[.int .i64 p.size,.int .i64 p.next,.slice ea en ec,.slice va vn vc,.slice ra rn rc,.slice la ln lc] 26)).alloc (.cells #[.int .i64 0,.int .i64 0,.slice none 0 0,.slice none 0 0,.slice none 0 0,.slice none 0 0] 26)=W0 at *
 refine (kW W0).mono ?_
 rintro e w1 ⟨⟨wa,wn,wq,rfl,hwn,R1⟩,hB1⟩
 have hz0:Hid (w.heap.size+1<W0.heap.size):=RB.lt
 replace PB:=PB.below hB1
 replace RB:=RB.below hB1
 replace hB1:=chain hA0 hB1
 clear hA0 kW
 replace E1:=E1.below hB1
 replace V1:=V1.below hB1
 replace C1:=C1.below hB1
 replace C2:=C2.below hB1
 replace AL:Al2 (VoR w1 B) vr p.vs:=AL.imp fun _ _ _ h=>h.below hB1
 have hvn:Hid (vr.length=vn):=V1.sl.len
 have hvk:vn<=60000:=by rw [<-hvn.out,AL.len];exact Nat.le_trans hd.vs hK
 obtain ⟨b0,b1,b2,b3,b4,b5⟩:=PB.sixM
 go_upto_if 22 with fail
 obtain ⟨xv,hxv⟩:∃ xv,Hid (lastX vr=xv):=⟨_,rfl⟩
 go_cut [7] (fun x wc=>x=.int .i64 xv∧wc=w1)
 case first=>
  rcases Nat.eq_zero_or_pos vn with h0 | h0
  ·subst h0
   have hx:xv=-1:=by rw [<-hxv.out,lastX,List.eq_nil_of_length_eq_zero hvn.out];rfl
   go_wp2
   go_meet
   exact ⟨by rw [hx],rfl⟩
  ·obtain ⟨k,rfl⟩:∃ k,vn=k+1:=⟨vn-1,by omega⟩
   obtain ⟨l',r,rfl,hlk⟩:=bz_ hvn.out
   have hr:(l'++[r])[k]?=some r:=by rw [<-hlk];simp
   obtain ⟨vb,rfl,hvb,c3⟩:=e7_ V1 hr
   have hx:Hid (xv=(r.n:Int)-1):=by show _=_;rw [<-hxv.out,lastX];simp
   have hrn:r.n<=60000:=by
    obtain ⟨m',y,hm,_,hv⟩:=AL.lastL
    have h1:=(hd.its y (by rw [hm];simp)).1
    rw [<-hv.its.len,hv.rows.sl.len] at h1
    omega
   have hkk:((k+1:Nat):Int)-1=k:=by omega
   go_wp2
   go_meet
   exact ⟨by rw [hx.out],rfl⟩
 case rest=>
  obtain ⟨rfl,rfl⟩:=hcut
  have kN:=fun (i:Nat) (x:World) (hx:Below wc.heap.size wc x)=>aJ_ wa wn wq (ws.map bA) i x (R1.sl.below hx) hwl
  have kW:=fun (i:Nat) (x:World) (hx:Below wc.heap.size wc x)=>aY_ wa wn wq (ws.map bA) i x (R1.sl.below hx)
  have k1:=kN 1
  have k2:=kN 2
  have k3:=kW 3
  have k4:=kW 4
  simp only [b7_] at k1 k2
  simp only [b8_] at k3 k4
  obtain ⟨n1,hn1⟩:∃ z,Hid (numQ ws 1=z):=⟨_,rfl⟩
  obtain ⟨n2,hn2⟩:∃ z,Hid (numQ ws 2=z):=⟨_,rfl⟩
  obtain ⟨t3,ht3⟩:∃ z,Hid (bA (wordQ ws 3)=z):=⟨_,rfl⟩
  obtain ⟨t4,ht4⟩:∃ z,Hid (bA (wordQ ws 4)=z):=⟨_,rfl⟩
  rw [hn1.out] at k1
  rw [hn2.out] at k2
  rw [ht3.out] at k3
  rw [ht4.out] at k4
  have ht4s:t4.size<=100000:=by
   rw [<-ht4.out]
   have:=b8_ ws 4
   rw [<-this]
   unfold idxW
   cases hc:(ws.map bA)[4]? with
   |none=>show (0:Nat)<=_;omega
   |some x=>exact hwl x (List.mem_of_getElem? hc)
  obtain ⟨n4,hn4⟩:∃ z,Hid ((numP (wordQ ws 4)).getD 0=z):=⟨_,rfl⟩
  have hi4:Hid (intV (numP t4.data.toList)=.tuple #[.int .i64 n4,.bool (numP t4.data.toList).isSome]):=by
   show _=_
   rw [<-hn4.out,<-ht4.out,af_]
   cases numP (wordQ ws 4)<;>rfl
  obtain ⟨k0,wr,hk0⟩:∃ k0 r,ws=k0::r:=by
   cases hc:ws with
   |nil=>exact absurd hc hwn0.out
   |cons a r=>exact ⟨a,r,rfl⟩
  obtain ⟨wb,wo,sx,rfl,hsx,cw⟩:=es_ R1.sl (k:=0) (by rw [<-R1.sl.len,hk0];simp)
  have hsx2:Hid (sx=bA k0):=by show _=_;rw [hk0] at hsx;exact (Option.some.inj hsx).symm
  clear kN kW hsx
  go_wp2_with fail
  refine (k1 _ (Below.refl _ _)).mono ?_
  rintro e u ⟨rfl,hu⟩
  subst hu
  go_wp2_with fail
  refine (k2 _ (Below.refl _ _)).mono ?_
  rintro e u ⟨rfl,hu⟩
  subst hu
  go_wp2_with fail
  refine (k3 _ (Below.refl _ _)).mono ?_
  rintro e u ⟨rfl,hu⟩
  subst hu
  go_wp2_with fail
  have hA2:Below u.heap.size u (u.alloc (.cells #[.int .i64 n1,.int .i64 n2,.string t3,.int .i64 0] 134)):=by go_grown
  have CB:=Blk.new u #[.int .i64 n1,.int .i64 n2,.string t3,.int .i64 0] 134
  generalize u.alloc (.cells #[.int .i64 n1,.int .i64 n2,.string t3,.int .i64 0] 134)=W2 at *
  refine (k4 _ hA2).mono ?_
  rintro e x ⟨rfl,hu⟩
  obtain rfl:W2=x:=hu.symm
  go_wp2_with fail
  refine (br_ t4 _ (by omega)).mono ?_
  rintro e x' ⟨rfl,hu⟩
  obtain rfl:W2=x':=hu.symm
  rw [hi4.out]
  have y3:=CB.cell 3
  have f3:=CB.frozen 3
  go_upto_region 8 with fail
  have hg3:W2.grownBy (W2.setCell ⟨u.heap.size,3,none⟩ (.int .i64 n4)) (some u.heap.size):=ac_ (World.grownBy.refl _ _) _ _
  have CB3:Blk (W2.setCell ⟨u.heap.size,3,none⟩ (.int .i64 n4)) u.heap.size #[.int .i64 n1,.int .i64 n2,.string t3,.int .i64 n4] 134:=by simpa using CB.set 3 (.int .i64 n4)
  have hA3:=am_ hA2 hg3 (Nat.le_refl _)
  generalize W2.setCell ⟨u.heap.size,3,none⟩ (.int .i64 n4)=W3 at *
  clear hg3 CB y3 f3 hA2 W2 b0 b1 b2 b3 b4 b5
  replace PB:=PB.below hA3
  replace RB:=RB.below hA3
  replace E1:=E1.below hA3
  replace V1:=V1.below hA3
  replace C1:=C1.below hA3
  replace C2:=C2.below hA3
  replace R1:=R1.below hA3
  replace AL:Al2 (VoR W3 B) vr p.vs:=AL.imp fun _ _ _ h=>h.below hA3
  replace cw:=bcell hA3 cw
  rw [Nat.add_zero] at cw
  have hwp:0<wn:=by rw [<-R1.sl.len,hk0];simp
  replace hB1:=chain hB1 hA3
  clear hA3
  have M3:PoolM B W3 (.agg #[.int .i64 p.size,.int .i64 p.next,.slice ea en ec,.slice va vn vc,.slice ra rn rc,.slice la ln lc]) p:=⟨ea,en,ec,va,vn,vc,ra,rn,rc,la,ln,lc,vr,rfl,E1,V1,C1,C2,hap,AL,N1,N2⟩
  have hB3:Below B w W3:=hB1.mono hB
  have hF:Hid (lineF p line.data.toList=lineG p k0 ws line.data.toList):=by
   show _=_
   unfold lineF
   rw [hws.out,hk0]
   rfl
  replace hgk:grpL k0=1:=by rw [hws.out,hk0] at hgk;exact hgk
  have hsl:sx.toList=k0:=by rw [hsx2.out,ByteArray.toList_eq,af_]
  by_cases hk:k0=poolK
  ·rw [hk] at hgk
   exact absurd hgk (by decide)
  have hkpoolK:¬ k0=poolK:=hk
  by_cases hkexK:k0=exK
  ·skip
   rw [hkexK] at hgk
   exact absurd hgk (by decide)
  by_cases hkvolK:k0=volK
  ·skip
   rw [hkvolK] at hgk
   exact absurd hgk (by decide)
  by_cases hkfileK:k0=fileK
  ·skip
   have epoolK:¬ sx.toList=[112,111,111,108]:=fun e=>hkpoolK (by rw [<-hsl,e];rfl)
   have eexK:¬ sx.toList=[101,120,116,101,110,116]:=fun e=>hkexK (by rw [<-hsl,e];rfl)
   have evolK:¬ sx.toList=[118,111,108,117,109,101]:=fun e=>hkvolK (by rw [<-hsl,e];rfl)
   have efileK:sx.toList=[102,105,108,101]:=by rw [hsl,hkfileK];rfl
   rcases Nat.eq_zero_or_pos vn with h0 | h0
   ·subst h0
    have hpv:p.vs=[]:=List.eq_nil_of_length_eq_zero (by rw [<-AL.len,hvn.out])
    have hP:Hid (lineF p line.data.toList=p):=by
     show _=_
     rw [hF.out]
     unfold lineG
     rw [if_neg hkpoolK,if_neg hkexK,if_neg hkvolK,if_pos hkfileK]
     rw [hpv];show ({p with vs:=[]}:Po)=p;rw [<-hpv]
    clear hsl hF hpv
    go_upto_region 28 with fail
    clear E1 V1 C1 C2 AL CB3 R1 cw k1 k2 k3 k4 hwl hap N1 N2
    obtain ⟨v0,v1,v2,v3,v4,v5⟩:=PB.sixM
    obtain ⟨r0,r1,r2,r3,r4,r5⟩:=RB.sixM
    obtain ⟨g0,g1,g2,g3,g4,g5⟩:=fz6 RB
    go_wp2
    obtain ⟨E8,M8,hB8⟩:=an_ RB hB3 (by omega) (M3)
    change bodyPost _ _ _ _ _ (put6 W3 (w.heap.size+1) (.int .i64 p.size) (.int .i64 p.next) (.slice ea en ec) (.slice va 0 vc) (.slice ra rn rc) (.slice la ln lc))
    generalize put6 W3 (w.heap.size+1) (.int .i64 p.size) (.int .i64 p.next) (.slice ea en ec) (.slice va 0 vc) (.slice ra rn rc) (.slice la ln lc)=W8 at *
    refine bodyPost_ret (results_cell_row rfl _ W8 (w.heap.size+1) _ _ _ _ rfl E8 Tryz.underlying26 rfl (by kernel_rfl)) rfl ?_
    exact ⟨⟨_,rfl,by rw [hP.out];exact M8⟩,hB8⟩
   ·obtain ⟨k,rfl⟩:∃ k,vn=k+1:=⟨vn-1,by omega⟩
    obtain ⟨l',r,rfl,hlk⟩:=bz_ hvn.out
    have hr:(l'++[r])[k]?=some r:=by rw [<-hlk];simp
    obtain ⟨m',u0,hm,AL',hv⟩:=AL.lastL
    obtain ⟨vb,rfl,hvb,c3⟩:=e7_ V1 hr
    have hrn:r.n<=60000:=by
     have h1:=(hd.its u0 (by rw [hm];simp)).1
     rw [<-hv.its.len,hv.rows.sl.len] at h1
     omega
    obtain ⟨t1,ht1⟩:∃ z,Hid (bA (wordQ ws 1)=z):=⟨_,rfl⟩
    have hP:Hid (lineF p line.data.toList={p with vs:=m'++[{u0 with its:=u0.its++[⟨t1,[]⟩]}]}):=by
     show _=_
     rw [hF.out]
     unfold lineG
     rw [if_neg hkpoolK,if_neg hkexK,if_neg hkvolK,if_pos hkfileK]
     rw [hm,bv_,ht1.out]
    clear hsl hF
    go_upto_region 20 with fail
    rw [show ((k+1:Nat):Int)-1=(k:Int) by omega]
    have hY:Below W3.heap.size W3 W3.drew:=(Below.refl _ _).drew
    replace PB:=PB.below hY
    replace RB:=RB.below hY
    replace R1:=R1.below hY
    replace c3:=bcell hY c3
    have E4:=E1.below hY
    have V4:=V1.below hY
    have D4:=C1.below hY
    have F4:=C2.below hY
    have AL4:Al2 (VoR W3.drew B) l' m':=AL'.imp fun _ _ _ h=>h.below hY
    have hv4:=hv.below hY
    have hB4:Below B w W3.drew:=hB3.drew
    obtain ⟨i0,hi0,hz0,hz1,hz2⟩:=info_parts infMI
    have hkl:(k:Int)<k+1:=by omega
    have hS0:(fun u=>u.cell? ⟨w.heap.size,3,none⟩=some (.slice (some ⟨vb,0,none⟩) (k+1) vc)∧u.cell? ⟨vb,k*4+3,none⟩=some (.slice r.a r.n r.c)) W3.drew:=⟨PB.cell 3,c3⟩
    refine ax_ (S:=(fun u=>u.cell? ⟨w.heap.size,3,none⟩=some (.slice (some ⟨vb,0,none⟩) (k+1) vc)∧u.cell? ⟨vb,k*4+3,none⟩=some (.slice r.a r.n r.c))) 16 (by kernel_rfl) (by kernel_rfl) ?_
    generalize W3.drew=y0 at *
    clear hY E1 V1 C1 C2 AL AL' M3 hB3 CB3 cw hv
    refine tk 0 ?_
    refine tk 1 ?_
    refine tk 2 ?_
    refine tk 3 ?_
    refine tk 4 ?_
    refine tk 5 ?_
    refine tk 6 ?_
    refine tk 7 ?_
    refine tk 8 ?_
    refine tk 9 ?_
    have k1:=aY_ _ wn wq (ws.map bA) 1 y0 R1.sl
    rw [b8_,ht1.out] at k1
    refine oneL (i:=10) (by kernel_rfl) rfl (fun K hK=>?_)
    go_simp
    refine k1.mono ?_
    rintro e z ⟨rfl,hz⟩
    obtain rfl:y0=z:=hz.symm
    dsimp only
    refine hK.out _ _ ⟨PB.cell 3,c3⟩ (fun hHeld=>?_)
    clear hK K
    try simp only [Act.put,lsA,lsB,lsC]
    refine tk 11 ?_
    refine oneL (i:=12) (by kernel_rfl) rfl (fun K hK=>?_)
    go_simp
    have hWA:Below y0.heap.size y0 (y0.alloc (.cells (IR.cs (⟨t1,none,0,0⟩:IR)).toArray tI)):=(Below.refl _ _).alloc (Nat.le_refl _) _
    have L4:=bi_ d4_ y0 (⟨t1,none,0,0⟩:IR) tI _ rfl
    replace PB:=PB.below hWA
    replace RB:=RB.below hWA
    replace c3:=bcell hWA c3
    replace E4:=E4.below hWA
    replace V4:=V4.below hWA
    replace D4:=D4.below hWA
    replace F4:=F4.below hWA
    replace AL4:Al2 (VoR (y0.alloc (.cells (IR.cs (⟨t1,none,0,0⟩:IR)).toArray tI)) B) l' m':=AL4.imp fun _ _ _ h=>h.below hWA
    replace hv4:=hv4.below hWA
    have hyz:=hB4.size
    replace hB4:=hB4.alloc (Nat.le_trans hB hyz) (.cells (IR.cs (⟨t1,none,0,0⟩:IR)).toArray tI)
    change K _ (y0.alloc (.cells (IR.cs (⟨t1,none,0,0⟩:IR)).toArray tI))
    generalize y0.alloc (.cells (IR.cs (⟨t1,none,0,0⟩:IR)).toArray tI)=y1 at *
    clear hWA
    refine hK.out _ _ ⟨PB.cell 3,c3⟩ (fun hHeld=>?_)
    clear hK K
    try simp only [Act.put,lsA,lsB,lsC]
    refine oneL (i:=13) (by kernel_rfl) rfl (fun K hK=>?_)
    refine aD_ rfl (bh_ _ _ 126 rfl B tI i0 (.agg #[.string .empty,.slice none 0 0]) 40 Tryz.underlying126 hi0 hz0 hz1 hz2 rfl (by decide) d4_ nf_ r.a r.n r.c _ rfl hv4.rows _ 1 1 [(⟨t1,none,0,0⟩:IR)] rfl L4 (fun ad h=>(by cases h;rfl)) (fun h=>(by cases h)) (r.n+1) rfl (by unfold maxLen;omega) (by omega) (by have:=hB4.size;omega) (fun a4 cap4 w4 R4 hg4 hf4=>?_))
    have NV:=N1
    rw [cw_] at NV
    have NP:=N2
    rw [cx_] at NP
    have hty:=hv4.rows.rowTy (m:=r.n) (k:=r.c)
    have E5:=E4.ty hg4 hty (by decide)
    have V5:=V4.ty hg4 hty (by decide)
    have D5:=D4.ty hg4 hty (by decide)
    have F5:=F4.ty hg4 hty (by decide)
    have PB5:=PB.ty hg4 hty (by decide)
    have RB5:=RB.ty hg4 hty (by decide)
    have AL5:Al2 (VoR w4 B) l' m':=AL4.imp fun q hq _ h=>h.offI hg4 hty (fun ad e=>ff_ (cL_ NV (fM_ hq e)))
    have hI5:Al2 (ItR w4 B) (r.irs++[(⟨t1,none,0,0⟩:IR)]) (u0.its++[⟨t1,[]⟩]):=(hv4.its.imp fun _ _ _ h=>h.ty hg4 hty (by decide)).snoc ⟨rfl,aL_⟩
    have hB5:Below B w w4:=hB4.grown hg4 (by have:=hB4.size;omega) (bj_ fun ad e=>(hv4.rows.block ad e).1)
    obtain ⟨vb',evb,_,c5⟩:=e7_ V5 hr
    obtain rfl:vb=vb':=by cases evb;rfl
    have fz:w4.frozen? ⟨vb,k*4+3,none⟩=false:=by
     rcases V5.own with ⟨h0,_⟩ | ⟨b,ha,_,_,_,c,hc,_⟩
     ·cases h0
     ·cases ha;exact hc.frozen _
    have hset:(l'++[r]).set k (⟨r.id,r.nm,r.fx,a4,r.n+1,cap4,r.irs++[⟨t1,none,0,0⟩]⟩:VR)=l'++[(⟨r.id,r.nm,r.fx,a4,r.n+1,cap4,r.irs++[⟨t1,none,0,0⟩]⟩:VR)]:=by rw [<-hlk];exact jf_ _ _ _
    have V6:=V5.set1 d3_ (x':=(⟨r.id,r.nm,r.fx,a4,r.n+1,cap4,r.irs++[⟨t1,none,0,0⟩]⟩:VR)) (v:=.slice a4 (r.n+1) cap4) hr (show 3<4 by omega) rfl
    rw [hset] at V6
    have hgv:w4.grownBy (w4.setCell ⟨vb,k*4+3,none⟩ (.slice a4 (r.n+1) cap4)) (some vb):=ac_ (World.grownBy.refl _ _) _ _
    have htv:RowTy w4 (some vb) tV:=V5.rowTy (m:=k+1) (k:=vc)
    have E6:=E5.ty hgv htv (by decide)
    have D6:=D5.ty hgv htv (by decide)
    have F6:=F5.ty hgv htv (by decide)
    have PB6:=PB5.ty hgv htv (by decide)
    have RB6:=RB5.ty hgv htv (by decide)
    have R6:=R4.ty hgv htv (by decide)
    have AL6:Al2 (VoR (w4.setCell ⟨vb,k*4+3,none⟩ (.slice a4 (r.n+1) cap4)) B) (l'++[(⟨r.id,r.nm,r.fx,a4,r.n+1,cap4,r.irs++[⟨t1,none,0,0⟩]⟩:VR)]) (m'++[{u0 with its:=u0.its++[⟨t1,[]⟩]}]):=(AL5.imp fun _ _ _ h=>h.ty hgv htv (by decide) (by decide)).snoc ⟨hv4.id,hv4.nm,hv4.fx,R6,hI5.imp fun _ _ _ h=>h.ty hgv htv (by decide)⟩
    have NA:(vblk (l'++[(⟨r.id,r.nm,r.fx,a4,r.n+1,cap4,r.irs++[⟨t1,none,0,0⟩]⟩:VR)])).Nodup:=by
     rw [cw_]
     refine dp_ NV (hX_ AL4) (fun b e=>?_)
     cases ha:a4 with
     |none=>rw [ha] at e;cases e
     |some ad=>
      rw [ha] at e
      obtain rfl:=Option.some.inj e
      rcases hf4 ad ha with ⟨ad0,e0,q0⟩ | q0
      ·exact .inl (by rw [e0];exact congrArg some q0)
      ·exact .inr q0
    have NB:(pblk (l'++[(⟨r.id,r.nm,r.fx,a4,r.n+1,cap4,r.irs++[⟨t1,none,0,0⟩]⟩:VR)])).Nodup:=by
     rw [cx_]
     show (pblk l'++(r.irs++[(⟨t1,none,0,0⟩:IR)]).filterMap fun x=>blkO x.a).Nodup
     rw [c3_]
     simpa [blkO] using NP
    have hB6:Below B w (w4.setCell ⟨vb,k*4+3,none⟩ (.slice a4 (r.n+1) cap4)):=hB5.grown hgv (by have:=hB5.size;omega) (fun j e=>by cases e;exact hvb)
    have M6:PoolM B (w4.setCell ⟨vb,k*4+3,none⟩ (.slice a4 (r.n+1) cap4)) (.agg #[.int .i64 p.size,.int .i64 p.next,.slice ea en ec,.slice (some ⟨vb,0,none⟩) (k+1) vc,.slice ra rn rc,.slice la ln lc]) {p with vs:=m'++[{u0 with its:=u0.its++[⟨t1,[]⟩]}]}:=⟨ea,en,ec,_,k+1,vc,ra,rn,rc,la,ln,lc,_,rfl,E6,V6,D6,F6,hap,AL6,NA,NB⟩
    clear hty hg4 hf4 hgv htv E5 V5 D5 F5 E6 D6 F6 AL5 AL6 NA NB hI5 R4 R6 V4 D4 F4 AL4 E4 L4 PB RB hB4 hv4 NV NP V6 hset evb
    obtain ⟨W6,hW6⟩:∃ W6,Hid (w4.setCell ⟨vb,k*4+3,none⟩ (.slice a4 (r.n+1) cap4)=W6):=⟨_,rfl⟩
    rw [hW6.out] at PB6 RB6 M6 hB6
    refine hK.out _ _ ⟨PB5.cell 3,c5⟩ (fun hHeld=>?_)
    clear hK K
    try simp only [Act.put,lsA,lsB,lsC]
    clear PB5 RB5 hB5
    refine tk 14 ?_
    refine tk 15 ?_
    refine wpAnyH_done (by kernel_rfl) ?_ _
    refine lastL rfl ?_
    go_upto_region 28 with fail
    rw [hW6.out]
    clear c5 fz hW6
    obtain ⟨v0,v1,v2,v3,v4,v5⟩:=PB6.sixM
    obtain ⟨r0,r1,r2,r3,r4,r5⟩:=RB6.sixM
    obtain ⟨g0,g1,g2,g3,g4,g5⟩:=fz6 RB6
    go_wp2
    obtain ⟨E8,M8,hB8⟩:=an_ RB6 hB6 (by omega) (M6)
    change bodyPost _ _ _ _ _ (put6 W6 (w.heap.size+1) (.int .i64 p.size) (.int .i64 p.next) (.slice ea en ec) (.slice (some ⟨vb,0,none⟩) (k+1) vc) (.slice ra rn rc) (.slice la ln lc))
    generalize put6 W6 (w.heap.size+1) (.int .i64 p.size) (.int .i64 p.next) (.slice ea en ec) (.slice (some ⟨vb,0,none⟩) (k+1) vc) (.slice ra rn rc) (.slice la ln lc)=W8 at *
    refine bodyPost_ret (results_cell_row rfl _ W8 (w.heap.size+1) _ _ _ _ rfl E8 Tryz.underlying26 rfl (by kernel_rfl)) rfl ?_
    exact ⟨⟨_,rfl,by rw [hP.out];exact M8⟩,hB8⟩
  by_cases hkpartK:k0=partK
  ·skip
   rw [hkpartK] at hgk
   exact absurd hgk (by decide)
  by_cases hkrefK:k0=refK
  ·skip
   rw [hkrefK] at hgk
   exact absurd hgk (by decide)
  by_cases hklateK:k0=lateK
  ·skip
   rw [hklateK] at hgk
   exact absurd hgk (by decide)
  rw [grpL,if_neg hkpoolK,if_neg hkexK,if_neg hkvolK,if_neg hkfileK,if_neg hkpartK,if_neg hkrefK,if_neg hklateK] at hgk
  exact absurd hgk (by decide)
end Go.Proofs.YtigldeccfpkdmaaGreatDoor
