/- Lines by their first word. A line of a pool's text, by the model. -/
import Derived.Test.YtigldeccfpkdmaaGreatDoorK12
import Derived.Deep.DeepCutAuto
import Derived.Test.YtigldeccfpkdmaaGreatDoorK02
import Derived.Test.YtigldeccfpkdmaaGreatDoorK15
namespace Go.Proofs.YtigldeccfpkdmaaGreatDoor
open Go Go.RowKit Go.BigFrame
set_option maxHeartbeats 20000000
set_option maxRecDepth 100000
/-- The number of the last item of the last volume, -1 where there is none. -/
def lastX (vr:List VR):Int:=match vr.getLast? with
 |none=>-1
 |some r=>(r.n:Int)-1
theorem e7_ {w:World} {B n c i:Nat} {a:Option Addr} {l:List VR} {r:VR} (h:ResAt VR.cs 4 tV w B a n c l) (hi:l[i]?=some r):∃ b,a=some ⟨b,0,none⟩∧B<=b∧w.cell? ⟨b,i*4+3,none⟩=some (.slice r.a r.n r.c):=by
 obtain ⟨b,o,ha,hc⟩:=h.sl.cell i r hi
 rcases h.own with ⟨h0,_⟩ | ⟨b',ha',hB,_⟩
 ·rw [h0] at ha;cases ha
 ·rw [ha'] at ha
  cases ha
  exact ⟨b,ha',hB,by have:=hc 3 _ rfl;simpa using this⟩
theorem o3_ {w:World} {B n c i:Nat} {a:Option Addr} {l:List IR} {r:IR} (h:ResAt IR.cs 2 tI w B a n c l) (hi:l[i]?=some r):∃ b,a=some ⟨b,0,none⟩∧B<=b∧w.cell? ⟨b,i*2+1,none⟩=some (.slice r.a r.n r.c):=by
 obtain ⟨b,o,ha,hc⟩:=h.sl.cell i r hi
 rcases h.own with ⟨h0,_⟩ | ⟨b',ha',hB,_⟩
 ·rw [h0] at ha;cases ha
 ·rw [ha'] at ha
  cases ha
  exact ⟨b,ha',hB,by have:=hc 1 _ rfl;simpa using this⟩
theorem bz_ {α:Type} {l:List α} {n:Nat} (h:l.length=n+1):∃ l' x,l=l'++[x]∧l'.length=n:=by
 have hne:l≠[]:=fun e=>by subst e;simp at h
 refine ⟨l.dropLast,l.getLast hne,(List.dropLast_concat_getLast hne).symm,by simp [h]⟩
/-- Four kinds of lines. -/
def grpL (k:By):Nat:=if k=poolK then 0 else if k=exK then 0 else if k=volK then 0 else if k=fileK then 1 else if k=partK then 2 else if k=refK then 3 else if k=lateK then 3 else 0
theorem ib_ (B K:Nat) (v:Value) (p:Po) (line:ByteArray) (w:World) (h:PoolM B w v p) (hB:B<=w.heap.size) (hK:K<=60000) (hd:DimM K p) (hl:line.size<=60000) (hgk:grpL (wordQ (wdsA line.data.toList) 0)=0) :
  Calls Tryz.prog 36 #[v,.string line] w fun e w'=>(∃ v',e=.returned v'∧PoolM B w' v' (lineF p line.data.toList))∧Below B w w':=by
 obtain ⟨ea,en,ec,va,vn,vc,ra,rn,rc,la,ln,lc,vr,rfl,E1,V1,C1,C2,hap,AL,N1,N2⟩:=h.out
 clear h
 obtain ⟨ws,hws⟩:∃ ws,Hid (wdsA line.data.toList=ws):=⟨_,rfl⟩
 have kW:=fun (u:World)=>bS_ line u (by omega)
 rw [hws.out] at kW
 have hwn0:Hid (ws≠[]):=by show _≠_;rw [<-hws.out];exact dQ_ _ _
 have hwl:∀ x∈ws.map bA,x.size<=100000:=by
  intro x hx
  obtain ⟨y,hy,rfl⟩:=List.mem_map.1 hx
  rw [<-hws.out] at hy
  have:=bW_ y hy
  rw [Lib.size_eq,af_]
  have h2:=Lib.size_eq line
  omega
 have PB0:=Blk.new w #[.int .i64 p.size,.int .i64 p.next,.slice ea en ec,.slice va vn vc,.slice ra rn rc,.slice la ln lc] 26
 have hA0:Below w.heap.size w ((w.alloc (.cells #[.int .i64 p.size,.int .i64 p.next,.slice ea en ec,.slice va vn vc,.slice ra rn rc,.slice la ln lc] 26)).alloc (.cells #[.int .i64 0,.int .i64 0,.slice none 0 0,.slice none 0 0,.slice none 0 0,.slice none 0 0] 26)):=by go_grown
 have PB:Blk ((w.alloc (.cells #[.int .i64 p.size,.int .i64 p.next,.slice ea en ec,.slice va vn vc,.slice ra rn rc,.slice la ln lc] 26)).alloc (.cells #[.int .i64 0,.int .i64 0,.slice none 0 0,.slice none 0 0,.slice none 0 0,.slice none 0 0] 26)) w.heap.size #[.int .i64 p.size,.int .i64 p.next,.slice ea en ec,.slice va vn vc,.slice ra rn rc,.slice la ln lc] 26:=PB0.below ((Below.refl _ _).alloc (Nat.le_refl _) _)
 have RB:Blk ((w.alloc (.cells #[.int .i64 p.size,.int .i64 p.next,.slice ea en ec,.slice va vn vc,.slice ra rn rc,.slice la ln lc] 26)).alloc (.cells #[.int .i64 0,.int .i64 0,.slice none 0 0,.slice none 0 0,.slice none 0 0,.slice none 0 0] 26)) (w.heap.size+1) #[.int .i64 0,.int .i64 0,.slice none 0 0,.slice none 0 0,.slice none 0 0,.slice none 0 0] 26:=Blk.new' _ _ _ _ (by simp)
 clear PB0
 go_enter Tryz.func36,Tryz.ntmps36
 go_wp2_with fail
 generalize (w.alloc (.cells #[.int .i64 p.size,.int .i64 p.next,.slice ea en ec,.slice va vn vc,.slice ra rn rc,.slice la ln lc] 26)).alloc (.cells #[.int .i64 0,.int .i64 0,.slice none 0 0,.slice none 0 0,.slice none 0 0,.slice none 0 0] 26)=W0 at *
 refine (kW W0).mono ?_
 rintro e w1 ⟨⟨wa,wn,wq,rfl,hwn,R1⟩,hB1⟩
 have hz0:Hid (w.heap.size+1<W0.heap.size):=RB.lt
 replace PB:=PB.below hB1
 replace RB:=RB.below hB1
 replace hB1:=chain hA0 hB1
 clear hA0 kW
 replace E1:=E1.below hB1
 replace V1:=V1.below hB1
 replace C1:=C1.below hB1
 replace C2:=C2.below hB1
 replace AL:Al2 (VoR w1 B) vr p.vs:=AL.imp fun _ _ _ h=>h.below hB1
 have hvn:Hid (vr.length=vn):=V1.sl.len
 have hvk:vn<=60000:=by rw [<-hvn.out,AL.len];exact Nat.le_trans hd.vs hK
 obtain ⟨b0,b1,b2,b3,b4,b5⟩:=PB.sixM
 go_upto_if 22 with fail
 obtain ⟨xv,hxv⟩:∃ xv,Hid (lastX vr=xv):=⟨_,rfl⟩
 go_cut [7] (fun x wc=>x=.int .i64 xv∧wc=w1)
 case first=>
  rcases Nat.eq_zero_or_pos vn with h0 | h0
  ·subst h0
   have hx:xv=-1:=by rw [<-hxv.out,lastX,List.eq_nil_of_length_eq_zero hvn.out];rfl
   go_wp2
   go_meet
   exact ⟨by rw [hx],rfl⟩
  ·obtain ⟨k,rfl⟩:∃ k,vn=k+1:=⟨vn-1,by omega⟩
   obtain ⟨l',r,rfl,hlk⟩:=bz_ hvn.out
   have hr:(l'++[r])[k]?=some r:=by rw [<-hlk];simp
   obtain ⟨vb,rfl,hvb,c3⟩:=e7_ V1 hr
   have hx:Hid (xv=(r.n:Int)-1):=by show _=_;rw [<-hxv.out,lastX];simp
   have hrn:r.n<=60000:=by
    obtain ⟨m',y,hm,_,hv⟩:=AL.lastL
    have h1:=(hd.its y (by rw [hm];simp)).1
    rw [<-hv.its.len,hv.rows.sl.len] at h1
    omega
   have hkk:((k+1:Nat):Int)-1=k:=by omega
   go_wp2
   go_meet
   exact ⟨by rw [hx.out],rfl⟩
 case rest=>
  obtain ⟨rfl,rfl⟩:=hcut
  have kN:=fun (i:Nat) (x:World) (hx:Below wc.heap.size wc x)=>aJ_ wa wn wq (ws.map bA) i x (R1.sl.below hx) hwl
  have kW:=fun (i:Nat) (x:World) (hx:Below wc.heap.size wc x)=>aY_ wa wn wq (ws.map bA) i x (R1.sl.below hx)
  have k1:=kN 1
  have k2:=kN 2
  have k3:=kW 3
  have k4:=kW 4
  simp only [b7_] at k1 k2
  simp only [b8_] at k3 k4
  obtain ⟨n1,hn1⟩:∃ z,Hid (numQ ws 1=z):=⟨_,rfl⟩
  obtain ⟨n2,hn2⟩:∃ z,Hid (numQ ws 2=z):=⟨_,rfl⟩
  obtain ⟨t3,ht3⟩:∃ z,Hid (bA (wordQ ws 3)=z):=⟨_,rfl⟩
  obtain ⟨t4,ht4⟩:∃ z,Hid (bA (wordQ ws 4)=z):=⟨_,rfl⟩
  rw [hn1.out] at k1
  rw [hn2.out] at k2
  rw [ht3.out] at k3
  rw [ht4.out] at k4
  have ht4s:t4.size<=100000:=by
   rw [<-ht4.out]
   have:=b8_ ws 4
   rw [<-this]
   unfold idxW
   cases hc:(ws.map bA)[4]? with
   |none=>show (0:Nat)<=_;omega
   |some x=>exact hwl x (List.mem_of_getElem? hc)
  obtain ⟨n4,hn4⟩:∃ z,Hid ((numP (wordQ ws 4)).getD 0=z):=⟨_,rfl⟩
  have hi4:Hid (intV (numP t4.data.toList)=.tuple #[.int .i64 n4,.bool (numP t4.data.toList).isSome]):=by
   show _=_
   rw [<-hn4.out,<-ht4.out,af_]
   cases numP (wordQ ws 4)<;>rfl
  obtain ⟨k0,wr,hk0⟩:∃ k0 r,ws=k0::r:=by
   cases hc:ws with
   |nil=>exact absurd hc hwn0.out
   |cons a r=>exact ⟨a,r,rfl⟩
  obtain ⟨wb,wo,sx,rfl,hsx,cw⟩:=es_ R1.sl (k:=0) (by rw [<-R1.sl.len,hk0];simp)
  have hsx2:Hid (sx=bA k0):=by show _=_;rw [hk0] at hsx;exact (Option.some.inj hsx).symm
  clear kN kW hsx
  go_wp2_with fail
  refine (k1 _ (Below.refl _ _)).mono ?_
  rintro e u ⟨rfl,hu⟩
  subst hu
  go_wp2_with fail
  refine (k2 _ (Below.refl _ _)).mono ?_
  rintro e u ⟨rfl,hu⟩
  subst hu
  go_wp2_with fail
  refine (k3 _ (Below.refl _ _)).mono ?_
  rintro e u ⟨rfl,hu⟩
  subst hu
  go_wp2_with fail
  have hA2:Below u.heap.size u (u.alloc (.cells #[.int .i64 n1,.int .i64 n2,.string t3,.int .i64 0] 134)):=by go_grown
  have CB:=Blk.new u #[.int .i64 n1,.int .i64 n2,.string t3,.int .i64 0] 134
  generalize u.alloc (.cells #[.int .i64 n1,.int .i64 n2,.string t3,.int .i64 0] 134)=W2 at *
  refine (k4 _ hA2).mono ?_
  rintro e x ⟨rfl,hu⟩
  obtain rfl:W2=x:=hu.symm
  go_wp2_with fail
  refine (br_ t4 _ (by omega)).mono ?_
  rintro e x' ⟨rfl,hu⟩
  obtain rfl:W2=x':=hu.symm
  rw [hi4.out]
  have y3:=CB.cell 3
  have f3:=CB.frozen 3
  go_upto_region 8 with fail
  have hg3:W2.grownBy (W2.setCell ⟨u.heap.size,3,none⟩ (.int .i64 n4)) (some u.heap.size):=ac_ (World.grownBy.refl _ _) _ _
  have CB3:Blk (W2.setCell ⟨u.heap.size,3,none⟩ (.int .i64 n4)) u.heap.size #[.int .i64 n1,.int .i64 n2,.string t3,.int .i64 n4] 134:=by simpa using CB.set 3 (.int .i64 n4)
  have hA3:=am_ hA2 hg3 (Nat.le_refl _)
  generalize W2.setCell ⟨u.heap.size,3,none⟩ (.int .i64 n4)=W3 at *
  clear hg3 CB y3 f3 hA2 W2 b0 b1 b2 b3 b4 b5
  replace PB:=PB.below hA3
  replace RB:=RB.below hA3
  replace E1:=E1.below hA3
  replace V1:=V1.below hA3
  replace C1:=C1.below hA3
  replace C2:=C2.below hA3
  replace R1:=R1.below hA3
  replace AL:Al2 (VoR W3 B) vr p.vs:=AL.imp fun _ _ _ h=>h.below hA3
  replace cw:=bcell hA3 cw
  rw [Nat.add_zero] at cw
  have hwp:0<wn:=by rw [<-R1.sl.len,hk0];simp
  replace hB1:=chain hB1 hA3
  clear hA3
  have M3:PoolM B W3 (.agg #[.int .i64 p.size,.int .i64 p.next,.slice ea en ec,.slice va vn vc,.slice ra rn rc,.slice la ln lc]) p:=⟨ea,en,ec,va,vn,vc,ra,rn,rc,la,ln,lc,vr,rfl,E1,V1,C1,C2,hap,AL,N1,N2⟩
  have hB3:Below B w W3:=hB1.mono hB
  have hF:Hid (lineF p line.data.toList=lineG p k0 ws line.data.toList):=by
   show _=_
   unfold lineF
   rw [hws.out,hk0]
   rfl
  replace hgk:grpL k0=0:=by rw [hws.out,hk0] at hgk;exact hgk
  have hsl:sx.toList=k0:=by rw [hsx2.out,ByteArray.toList_eq,af_]
  by_cases hk:k0=poolK
  ·have e1:sx.toList=[112,111,111,108]:=by rw [hsl,hk];rfl
   have hP:Hid (lineF p line.data.toList={p with size:=n1,next:=n2}):=by show _=_;rw [hF.out,hk];unfold lineG;rw [if_pos rfl,hn1.out,hn2.out]
   clear hsl hF
   have k1:=aJ_ _ wn wq (ws.map bA) 1 W3 R1.sl hwl
   rw [b7_,hn1.out] at k1
   have p0:=PB.cell 0
   have q0:=PB.frozen 0
   go_wp2_with fail
   refine k1.mono ?_
   rintro e x ⟨rfl,hx⟩
   obtain rfl:W3=x:=hx.symm
   go_upto_region 11 with fail
   obtain ⟨PB4,M4,hB4,hg4⟩:=cv_ PB hB3 hB M3 0 (.int .i64 n1)
   have R4:=R1.ty hg4 (ap_ PB) (by decide)
   have RB4:=RB.grown hg4 (by omega)
   simp only [List.setIfInBounds_toArray,List.set_cons_zero] at PB4
   generalize W3.setCell ⟨w.heap.size,0,none⟩ (.int .i64 n1)=W4 at *
   clear hg4 p0 q0
   have k2:=aJ_ _ wn wq (ws.map bA) 2 W4 R4.sl hwl
   rw [b7_,hn2.out] at k2
   have p1:=PB4.cell 1
   have q1:=PB4.frozen 1
   go_wp2_with fail
   refine k2.mono ?_
   rintro e x ⟨rfl,hx⟩
   obtain rfl:W4=x:=hx.symm
   go_upto_region 28 with fail
   obtain ⟨PB5,M5,hB5,hg5⟩:=cv_ PB4 hB4 hB M4 1 (.int .i64 n2)
   have RB5:=RB4.grown hg5 (by omega)
   simp only [List.setIfInBounds_toArray,List.set_cons_zero,List.set_cons_succ] at PB5
   generalize W4.setCell ⟨w.heap.size,1,none⟩ (.int .i64 n2)=W5 at *
   clear hg5 p1 q1 cw
   obtain ⟨v0,v1,v2,v3,v4,v5⟩:=PB5.sixM
   obtain ⟨r0,r1,r2,r3,r4,r5⟩:=RB5.sixM
   obtain ⟨g0,g1,g2,g3,g4,g5⟩:=fz6 RB5
   go_wp2
   obtain ⟨E8,M8,hB8⟩:=an_ RB5 hB5 (by omega) (M5.nums (a':=n1) (b':=n2))
   change bodyPost _ _ _ _ _ (put6 W5 (w.heap.size+1) (.int .i64 n1) (.int .i64 n2) (.slice ea en ec) (.slice va vn vc) (.slice ra rn rc) (.slice la ln lc))
   generalize put6 W5 (w.heap.size+1) (.int .i64 n1) (.int .i64 n2) (.slice ea en ec) (.slice va vn vc) (.slice ra rn rc) (.slice la ln lc)=W8 at *
   refine bodyPost_ret (results_cell_row rfl _ W8 (w.heap.size+1) _ _ _ _ rfl E8 Tryz.underlying26 rfl (by kernel_rfl)) rfl ?_
   exact ⟨⟨_,rfl,by rw [hP.out];exact M8⟩,hB8⟩
  have hkpoolK:¬ k0=poolK:=hk
  by_cases hkexK:k0=exK
  ·skip
   have epoolK:¬ sx.toList=[112,111,111,108]:=fun e=>hkpoolK (by rw [<-hsl,e];rfl)
   have eexK:sx.toList=[101,120,116,101,110,116]:=by rw [hsl,hkexK];rfl
   obtain ⟨r1,hr1⟩:∃ z,Hid (bA (behQ line.data.toList)=z):=⟨_,rfl⟩
   obtain ⟨dt,hdt⟩:∃ z,Hid (bA (behQ r1.data.toList)=z):=⟨_,rfl⟩
   have hP:Hid (lineF p line.data.toList={p with ex:=p.ex++[(⟨n1,dt⟩:Ex)]}):=by
    show _=_
    rw [hF.out]
    unfold lineG
    rw [if_neg hkpoolK,if_pos hkexK]
    rw [hn1.out,<-hdt.out,<-hr1.out,af_]
   clear hsl hF
   obtain ⟨xa,xb,hx1⟩:=jc_ line
   obtain ⟨ya,yb,hy1⟩:=jc_ r1
   rw [hr1.out] at hx1
   rw [hdt.out] at hy1
   have hr1s:r1.size<=60000:=by rw [<-hr1.out];exact Nat.le_trans (jd_ line) hl
   have q1:=b0_ 32 line W3 (by omega)
   have q2:=b0_ 32 r1
   rw [hx1] at q1
   rw [hy1] at q2
   go_wp2_with fail
   refine q1.mono ?_
   rintro e x ⟨rfl,hb1⟩
   go_wp2_with fail
   refine (q2 x (by omega)).mono ?_
   rintro e y ⟨rfl,hb2⟩
   go_upto_region 15 with fail
   have hY:=(chain hb1 hb2).drew
   clear hb1 hb2 q1 q2
   replace PB:=PB.below hY
   replace RB:=RB.below hY
   replace R1:=R1.below hY
   have E4:=E1.below hY
   have V4:=V1.below hY
   have D4:=C1.below hY
   have F4:=C2.below hY
   have AL4:Al2 (VoR y.drew B) vr p.vs:=AL.imp fun _ _ _ h=>h.below hY
   have hB4:Below B w y.drew:=hB3.trans (hY.mono (Nat.le_trans hB hB3.size))
   have hdk:en<=60000:=by rw [<-E1.sl.len];exact Nat.le_trans hd.ex hK
   obtain ⟨i0,hi0,hz0,hz1,hz2⟩:=info_parts infME
   have hS0:(fun u=>u.cell? ⟨w.heap.size,2,none⟩=some (.slice ea en ec)) y.drew:=PB.cell 2
   refine ax_ (S:=(fun u=>u.cell? ⟨w.heap.size,2,none⟩=some (.slice ea en ec))) 9 (by kernel_rfl) (by kernel_rfl) ?_
   generalize y.drew=y0 at *
   clear hY E1 V1 C1 C2 AL M3 hB3 CB3 cw
   refine tk 0 ?_
   refine tk 1 ?_
   refine tk 2 ?_
   refine tk 4 ?_
   have k1:=aJ_ _ wn wq (ws.map bA) 1 y0 R1.sl hwl
   rw [b7_,hn1.out] at k1
   refine oneL (i:=3) (by kernel_rfl) rfl (fun K hK=>?_)
   go_simp
   refine k1.mono ?_
   rintro e z ⟨rfl,hz⟩
   obtain rfl:y0=z:=hz.symm
   dsimp only
   refine hK.out _ _ (PB.cell 2) (fun hHeld=>?_)
   clear hK K
   try simp only [Act.put,lsA,lsB,lsC]
   refine tk 5 ?_
   refine oneL (i:=6) (by kernel_rfl) rfl (fun K hK=>?_)
   go_simp
   have hWA:Below y0.heap.size y0 (y0.alloc (.cells (Ex.cs (⟨n1,dt⟩:Ex)).toArray tE)):=(Below.refl _ _).alloc (Nat.le_refl _) _
   have L4:=bi_ fe_ y0 (⟨n1,dt⟩:Ex) tE _ rfl
   replace PB:=PB.below hWA
   replace RB:=RB.below hWA
   replace E4:=E4.below hWA
   replace V4:=V4.below hWA
   replace D4:=D4.below hWA
   replace F4:=F4.below hWA
   replace AL4:Al2 (VoR (y0.alloc (.cells (Ex.cs (⟨n1,dt⟩:Ex)).toArray tE)) B) vr p.vs:=AL4.imp fun _ _ _ h=>h.below hWA
   have hyz:=hB4.size
   replace hB4:=hB4.alloc (Nat.le_trans hB hyz) (.cells (Ex.cs (⟨n1,dt⟩:Ex)).toArray tE)
   change K _ (y0.alloc (.cells (Ex.cs (⟨n1,dt⟩:Ex)).toArray tE))
   generalize y0.alloc (.cells (Ex.cs (⟨n1,dt⟩:Ex)).toArray tE)=y1 at *
   clear hWA
   refine hK.out _ _ (PB.cell 2) (fun hHeld=>?_)
   clear hK K
   try simp only [Act.put,lsA,lsB,lsC]
   refine oneL (i:=7) (by kernel_rfl) rfl (fun K hK=>?_)
   refine aD_ rfl (bh_ _ _ 22 rfl B tE i0 (.agg #[.int .i64 0,.string .empty]) 24 Tryz.underlying22 hi0 hz0 hz1 hz2 rfl (by decide) fe_ lp_ ea en ec _ rfl E4 _ 1 1 [(⟨n1,dt⟩:Ex)] rfl L4 (fun ad h=>(by cases h;rfl)) (fun h=>(by cases h)) (en+1) rfl (by unfold maxLen;omega) (by omega) (by have:=hB4.size;omega) (fun a4 cap4 w4 R4 hg4 hf4=>?_))
   have hty:=E4.rowTy (m:=en) (k:=ec)
   have V5:=V4.ty hg4 hty (by decide)
   have D5:=D4.ty hg4 hty (by decide)
   have F5:=F4.ty hg4 hty (by decide)
   have AL5:Al2 (VoR w4 B) vr p.vs:=AL4.imp fun _ _ _ h=>h.ty hg4 hty (by decide) (by decide)
   have PB5:=PB.ty hg4 hty (by decide)
   have RB5:=RB.ty hg4 hty (by decide)
   have hB5:Below B w w4:=hB4.grown hg4 (by have:=hB4.size;omega) (bj_ fun ad e=>(E4.block ad e).1)
   have M5:PoolM B w4 (.agg #[.int .i64 p.size,.int .i64 p.next,.slice a4 (en+1) cap4,.slice va vn vc,.slice ra rn rc,.slice la ln lc]) {p with ex:=p.ex++[(⟨n1,dt⟩:Ex)]}:=⟨a4,en+1,cap4,va,vn,vc,ra,rn,rc,la,ln,lc,vr,rfl,R4,V5,D5,F5,hap,AL5,N1,N2⟩
   clear hty hg4 hf4 V5 D5 F5 AL5 R4 V4 D4 F4 AL4 E4 L4 PB RB hB4
   refine hK.out _ _ (PB5.cell 2) (fun hHeld=>?_)
   clear hK K
   try simp only [Act.put,lsA,lsB,lsC]
   refine tk 8 ?_
   refine wpAnyH_done (by kernel_rfl) ?_ _
   refine lastL rfl ?_
   have p2:=PB5.cell 2
   have q2:=PB5.frozen 2
   go_upto_region 28 with fail
   obtain ⟨PB6,M6,hB6,hg6⟩:=cv_ PB5 hB5 hB M5 2 (.slice a4 (en+1) cap4)
   have RB6:=RB5.grown hg6 (by omega)
   simp only [List.setIfInBounds_toArray,List.set_cons_zero,List.set_cons_succ] at PB6
   generalize w4.setCell ⟨w.heap.size,2,none⟩ (.slice a4 (en+1) cap4)=W6 at *
   clear hg6 p2 q2
   obtain ⟨v0,v1,v2,v3,v4,v5⟩:=PB6.sixM
   obtain ⟨r0,r1,r2,r3,r4,r5⟩:=RB6.sixM
   obtain ⟨g0,g1,g2,g3,g4,g5⟩:=fz6 RB6
   go_wp2
   obtain ⟨E8,M8,hB8⟩:=an_ RB6 hB6 (by omega) (M6)
   change bodyPost _ _ _ _ _ (put6 W6 (w.heap.size+1) (.int .i64 p.size) (.int .i64 p.next) (.slice a4 (en+1) cap4) (.slice va vn vc) (.slice ra rn rc) (.slice la ln lc))
   generalize put6 W6 (w.heap.size+1) (.int .i64 p.size) (.int .i64 p.next) (.slice a4 (en+1) cap4) (.slice va vn vc) (.slice ra rn rc) (.slice la ln lc)=W8 at *
   refine bodyPost_ret (results_cell_row rfl _ W8 (w.heap.size+1) _ _ _ _ rfl E8 Tryz.underlying26 rfl (by kernel_rfl)) rfl ?_
   exact ⟨⟨_,rfl,by rw [hP.out];exact M8⟩,hB8⟩
  by_cases hkvolK:k0=volK
  ·skip
   have epoolK:¬ sx.toList=[112,111,111,108]:=fun e=>hkpoolK (by rw [<-hsl,e];rfl)
   have eexK:¬ sx.toList=[101,120,116,101,110,116]:=fun e=>hkexK (by rw [<-hsl,e];rfl)
   have evolK:sx.toList=[118,111,108,117,109,101]:=by rw [hsl,hkvolK];rfl
   obtain ⟨t2,ht2⟩:∃ z,Hid (bA (wordQ ws 2)=z):=⟨_,rfl⟩
   obtain ⟨fx,hfx⟩:∃ z,Hid ((wordQ ws 3==[49])=z):=⟨_,rfl⟩
   have hP:Hid (lineF p line.data.toList={p with vs:=p.vs++[⟨n1,t2,fx,[]⟩]}):=by
    show _=_
    rw [hF.out]
    unfold lineG
    rw [if_neg hkpoolK,if_neg hkexK,if_pos hkvolK]
    rw [volQ,hn1.out,ht2.out,hfx.out]
   clear hsl hF
   have hfx2:(t3.toList==[49])=fx:=by rw [<-hfx.out,<-ht3.out,ByteArray.toList_eq,af_]
   go_upto_region 17 with fail
   have hY:Below W3.heap.size W3 W3.drew:=(Below.refl _ _).drew
   replace PB:=PB.below hY
   replace RB:=RB.below hY
   replace R1:=R1.below hY
   have E4:=E1.below hY
   have V4:=V1.below hY
   have D4:=C1.below hY
   have F4:=C2.below hY
   have AL4:Al2 (VoR W3.drew B) vr p.vs:=AL.imp fun _ _ _ h=>h.below hY
   have hB4:Below B w W3.drew:=hB3.drew
   obtain ⟨i0,hi0,hz0,hz1,hz2⟩:=info_parts infMV
   have hS0:(fun u=>u.cell? ⟨w.heap.size,3,none⟩=some (.slice va vn vc)) W3.drew:=PB.cell 3
   refine ax_ (S:=(fun u=>u.cell? ⟨w.heap.size,3,none⟩=some (.slice va vn vc))) 13 (by kernel_rfl) (by kernel_rfl) ?_
   generalize W3.drew=y0 at *
   clear hY E1 V1 C1 C2 AL M3 hB3 CB3 cw
   refine tk 0 ?_
   refine tk 1 ?_
   refine tk 2 ?_
   refine tk 4 ?_
   refine tk 6 ?_
   have k1:=aJ_ _ wn wq (ws.map bA) 1 y0 R1.sl hwl
   rw [b7_,hn1.out] at k1
   have k2:=aY_ _ wn wq (ws.map bA) 2 y0 R1.sl
   rw [b8_,ht2.out] at k2
   have k3:=aY_ _ wn wq (ws.map bA) 3 y0 R1.sl
   rw [b8_,ht3.out] at k3
   refine oneL (i:=3) (by kernel_rfl) rfl (fun K hK=>?_)
   go_simp
   refine k1.mono ?_
   rintro e z ⟨rfl,hz⟩
   obtain rfl:y0=z:=hz.symm
   dsimp only
   refine hK.out _ _ (PB.cell 3) (fun hHeld=>?_)
   clear hK K
   try simp only [Act.put,lsA,lsB,lsC]
   refine oneL (i:=5) (by kernel_rfl) rfl (fun K hK=>?_)
   go_simp
   refine k2.mono ?_
   rintro e z ⟨rfl,hz⟩
   obtain rfl:y0=z:=hz.symm
   dsimp only
   refine hK.out _ _ (PB.cell 3) (fun hHeld=>?_)
   clear hK K
   try simp only [Act.put,lsA,lsB,lsC]
   refine oneL (i:=7) (by kernel_rfl) rfl (fun K hK=>?_)
   go_simp
   refine k3.mono ?_
   rintro e z ⟨rfl,hz⟩
   obtain rfl:y0=z:=hz.symm
   dsimp only
   refine hK.out _ _ (PB.cell 3) (fun hHeld=>?_)
   clear hK K
   try simp only [Act.put,lsA,lsB,lsC]
   refine tk 8 ?_
   refine tk 9 ?_
   refine oneL (i:=10) (by kernel_rfl) rfl (fun K hK=>?_)
   go_simp
   have hWA:Below y0.heap.size y0 (y0.alloc (.cells (VR.cs (⟨n1,t2,fx,none,0,0,[]⟩:VR)).toArray tV)):=(Below.refl _ _).alloc (Nat.le_refl _) _
   have L4:=bi_ d3_ y0 (⟨n1,t2,fx,none,0,0,[]⟩:VR) tV _ rfl
   replace PB:=PB.below hWA
   replace RB:=RB.below hWA
   replace E4:=E4.below hWA
   replace V4:=V4.below hWA
   replace D4:=D4.below hWA
   replace F4:=F4.below hWA
   replace AL4:Al2 (VoR (y0.alloc (.cells (VR.cs (⟨n1,t2,fx,none,0,0,[]⟩:VR)).toArray tV)) B) vr p.vs:=AL4.imp fun _ _ _ h=>h.below hWA
   have hyz:=hB4.size
   replace hB4:=hB4.alloc (Nat.le_trans hB hyz) (.cells (VR.cs (⟨n1,t2,fx,none,0,0,[]⟩:VR)).toArray tV)
   change K _ (y0.alloc (.cells (VR.cs (⟨n1,t2,fx,none,0,0,[]⟩:VR)).toArray tV))
   generalize y0.alloc (.cells (VR.cs (⟨n1,t2,fx,none,0,0,[]⟩:VR)).toArray tV)=y1 at *
   clear hWA
   refine hK.out _ _ (PB.cell 3) (fun hHeld=>?_)
   clear hK K
   try simp only [Act.put,lsA,lsB,lsC]
   refine oneL (i:=11) (by kernel_rfl) rfl (fun K hK=>?_)
   refine aD_ rfl (bh_ _ _ 23 rfl B tV i0 (.agg #[.int .i64 0,.string .empty,.bool false,.slice none 0 0]) 56 Tryz.underlying23 hi0 hz0 hz1 hz2 rfl (by decide) d3_ ng_ va vn vc _ rfl V4 _ 1 1 [(⟨n1,t2,fx,none,0,0,[]⟩:VR)] rfl L4 (fun ad h=>(by cases h;rfl)) (fun h=>(by cases h)) (vn+1) rfl (by unfold maxLen;omega) (by omega) (by have:=hB4.size;omega) (fun a4 cap4 w4 R4 hg4 hf4=>?_))
   have hty:=V4.rowTy (m:=vn) (k:=vc)
   have E5:=E4.ty hg4 hty (by decide)
   have D5:=D4.ty hg4 hty (by decide)
   have F5:=F4.ty hg4 hty (by decide)
   have AL5:Al2 (VoR w4 B) vr p.vs:=AL4.imp fun _ _ _ h=>h.ty hg4 hty (by decide) (by decide)
   have AL6:Al2 (VoR w4 B) (vr++[(⟨n1,t2,fx,none,0,0,[]⟩:VR)]) (p.vs++[⟨n1,t2,fx,[]⟩]):=AL5.snoc ⟨rfl,rfl,rfl,aL_,.nil⟩
   have NA:(vblk (vr++[(⟨n1,t2,fx,none,0,0,[]⟩:VR)])).Nodup:=by rw [mo_];exact N1
   have NB:(pblk (vr++[(⟨n1,t2,fx,none,0,0,[]⟩:VR)])).Nodup:=by rw [np_];exact N2
   have PB5:=PB.ty hg4 hty (by decide)
   have RB5:=RB.ty hg4 hty (by decide)
   have hB5:Below B w w4:=hB4.grown hg4 (by have:=hB4.size;omega) (bj_ fun ad e=>(V4.block ad e).1)
   have M5:PoolM B w4 (.agg #[.int .i64 p.size,.int .i64 p.next,.slice ea en ec,.slice a4 (vn+1) cap4,.slice ra rn rc,.slice la ln lc]) {p with vs:=p.vs++[⟨n1,t2,fx,[]⟩]}:=⟨ea,en,ec,a4,vn+1,cap4,ra,rn,rc,la,ln,lc,_,rfl,E5,R4,D5,F5,hap,AL6,NA,NB⟩
   clear hty hg4 hf4 E5 D5 F5 AL5 AL6 NA NB R4 V4 D4 F4 AL4 E4 L4 PB RB hB4
   refine hK.out _ _ (PB5.cell 3) (fun hHeld=>?_)
   clear hK K
   try simp only [Act.put,lsA,lsB,lsC]
   refine tk 12 ?_
   refine wpAnyH_done (by kernel_rfl) ?_ _
   refine lastL rfl ?_
   have p2:=PB5.cell 3
   have q2:=PB5.frozen 3
   go_upto_region 28 with fail
   obtain ⟨PB6,M6,hB6,hg6⟩:=cv_ PB5 hB5 hB M5 3 (.slice a4 (vn+1) cap4)
   have RB6:=RB5.grown hg6 (by omega)
   simp only [List.setIfInBounds_toArray,List.set_cons_zero,List.set_cons_succ] at PB6
   generalize w4.setCell ⟨w.heap.size,3,none⟩ (.slice a4 (vn+1) cap4)=W6 at *
   clear hg6 p2 q2
   obtain ⟨v0,v1,v2,v3,v4,v5⟩:=PB6.sixM
   obtain ⟨r0,r1,r2,r3,r4,r5⟩:=RB6.sixM
   obtain ⟨g0,g1,g2,g3,g4,g5⟩:=fz6 RB6
   go_wp2
   obtain ⟨E8,M8,hB8⟩:=an_ RB6 hB6 (by omega) (M6)
   change bodyPost _ _ _ _ _ (put6 W6 (w.heap.size+1) (.int .i64 p.size) (.int .i64 p.next) (.slice ea en ec) (.slice a4 (vn+1) cap4) (.slice ra rn rc) (.slice la ln lc))
   generalize put6 W6 (w.heap.size+1) (.int .i64 p.size) (.int .i64 p.next) (.slice ea en ec) (.slice a4 (vn+1) cap4) (.slice ra rn rc) (.slice la ln lc)=W8 at *
   refine bodyPost_ret (results_cell_row rfl _ W8 (w.heap.size+1) _ _ _ _ rfl E8 Tryz.underlying26 rfl (by kernel_rfl)) rfl ?_
   exact ⟨⟨_,rfl,by rw [hP.out];exact M8⟩,hB8⟩
  by_cases hkfileK:k0=fileK
  ·skip
   rw [hkfileK] at hgk
   exact absurd hgk (by decide)
  by_cases hkpartK:k0=partK
  ·skip
   rw [hkpartK] at hgk
   exact absurd hgk (by decide)
  by_cases hkrefK:k0=refK
  ·skip
   rw [hkrefK] at hgk
   exact absurd hgk (by decide)
  by_cases hklateK:k0=lateK
  ·skip
   rw [hklateK] at hgk
   exact absurd hgk (by decide)
  have epoolK:¬ sx.toList=[112,111,111,108]:=fun e=>hkpoolK (by rw [<-hsl,e];rfl)
  have eexK:¬ sx.toList=[101,120,116,101,110,116]:=fun e=>hkexK (by rw [<-hsl,e];rfl)
  have evolK:¬ sx.toList=[118,111,108,117,109,101]:=fun e=>hkvolK (by rw [<-hsl,e];rfl)
  have efileK:¬ sx.toList=[102,105,108,101]:=fun e=>hkfileK (by rw [<-hsl,e];rfl)
  have epartK:¬ sx.toList=[112,97,114,116]:=fun e=>hkpartK (by rw [<-hsl,e];rfl)
  have erefK:¬ sx.toList=[114,101,102]:=fun e=>hkrefK (by rw [<-hsl,e];rfl)
  have elateK:¬ sx.toList=[108,97,116,101]:=fun e=>hklateK (by rw [<-hsl,e];rfl)
  have fpoolK:(sx.toList==[112,111,111,108])=false:=beq_eq_false_iff_ne.2 epoolK
  have fexK:(sx.toList==[101,120,116,101,110,116])=false:=beq_eq_false_iff_ne.2 eexK
  have fvolK:(sx.toList==[118,111,108,117,109,101])=false:=beq_eq_false_iff_ne.2 evolK
  have ffileK:(sx.toList==[102,105,108,101])=false:=beq_eq_false_iff_ne.2 efileK
  have fpartK:(sx.toList==[112,97,114,116])=false:=beq_eq_false_iff_ne.2 epartK
  have frefK:(sx.toList==[114,101,102])=false:=beq_eq_false_iff_ne.2 erefK
  have flateK:(sx.toList==[108,97,116,101])=false:=beq_eq_false_iff_ne.2 elateK
  have hP:Hid (lineF p line.data.toList=p):=by
   show _=_
   rw [hF.out]
   unfold lineG
   rw [if_neg hkpoolK,if_neg hkexK,if_neg hkvolK,if_neg hkfileK,if_neg hkpartK,if_neg hkrefK,if_neg hklateK]
  clear hsl hF
  go_upto_region 28 with fail
  clear E1 V1 C1 C2 AL CB3 R1 cw k1 k2 k3 k4 hwl hap N1 N2
  obtain ⟨v0,v1,v2,v3,v4,v5⟩:=PB.sixM
  obtain ⟨r0,r1,r2,r3,r4,r5⟩:=RB.sixM
  obtain ⟨g0,g1,g2,g3,g4,g5⟩:=fz6 RB
  go_wp2
  obtain ⟨E8,M8,hB8⟩:=an_ RB hB3 (by omega) (M3)
  change bodyPost _ _ _ _ _ (put6 W3 (w.heap.size+1) (.int .i64 p.size) (.int .i64 p.next) (.slice ea en ec) (.slice va vn vc) (.slice ra rn rc) (.slice la ln lc))
  generalize put6 W3 (w.heap.size+1) (.int .i64 p.size) (.int .i64 p.next) (.slice ea en ec) (.slice va vn vc) (.slice ra rn rc) (.slice la ln lc)=W8 at *
  refine bodyPost_ret (results_cell_row rfl _ W8 (w.heap.size+1) _ _ _ _ rfl E8 Tryz.underlying26 rfl (by kernel_rfl)) rfl ?_
  exact ⟨⟨_,rfl,by rw [hP.out];exact M8⟩,hB8⟩
end Go.Proofs.YtigldeccfpkdmaaGreatDoor
