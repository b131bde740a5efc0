/- Texts of pools, read and written; what is drawn. -/
import Derived.Test.YtkiceokhlceciaaGreatDoorU10
import Derived.Test.YtkiceokhlceciaaGreatDoorU22
import Derived.Test.YtkiceokhlceciaaGreatDoorU43
set_option maxHeartbeats 20000000
set_option maxRecDepth 100000
namespace Go.Proofs.YtkiceokhlceciaaGreatDoor
open Go Go.RowKit Go.BigFrame Tryz
theorem Hw (B K:Nat)(v:Value)(p:Po)(line:ByteArray)(w:World)(h:AE B w v p)(hB:B<=w.heap.size)(hK:K<=60000)(hd:Fm K p)(hl:line.size<=60000)(hs:Ft (AY (Cm line.data.toList) 0)=0) :
  Calls prog 60 #[v,.string line] w fun e w'=>(∃ v',e=.returned v'∧AE B w' v' (AM p line.data.toList))∧Below B w w':=by
 obtain⟨ea,en,ec,va,vn,vc,ra,rn,rc,la,ln,lc,vr,rfl,E1,V1,C1,C2,hL,AL,N1,N2⟩:=h.out
 clear h
 obtain⟨ws,hI⟩:∃ ws,Hid (Cm line.data.toList=ws):=⟨_,rfl⟩
 have kW:=fun (u:World)=>CW line u (by omega)
 rw[hI.out] at kW
 have h4:Hid (ws≠[]):=by show _≠_;rw[<-hI.out];exact Fl _ _
 have hC:∀ x∈ws.map bA,x.size<=100000:=by
  intro x hx
  obtain⟨y,hy,rfl⟩:=ZT.1 hx
  rw[<-hI.out] at hy
  have:=C0 y hy
  rw[Lib.size_eq,Af]
  have h2:=Lib.size_eq line
  omega
 have h8:=Blk.new w #[.int .i64 p.size,.int .i64 p.next,.slice ea en ec,.slice va vn vc,.slice ra rn rc,.slice la ln lc] 28
 have h9:Below w.heap.size w ((w.alloc (.cells #[.int .i64 p.size,.int .i64 p.next,.slice ea en ec,.slice va vn vc,.slice ra rn rc,.slice la ln lc] 28)).alloc (.cells #[.int .i64 0,.int .i64 0,.slice none 0 0,.slice none 0 0,.slice none 0 0,.slice none 0 0] 28)):=by go_grown
 have PB:Blk ((w.alloc (.cells #[.int .i64 p.size,.int .i64 p.next,.slice ea en ec,.slice va vn vc,.slice ra rn rc,.slice la ln lc] 28)).alloc (.cells #[.int .i64 0,.int .i64 0,.slice none 0 0,.slice none 0 0,.slice none 0 0,.slice none 0 0] 28)) w.heap.size #[.int .i64 p.size,.int .i64 p.next,.slice ea en ec,.slice va vn vc,.slice ra rn rc,.slice la ln lc] 28:=h8.below ((Yg _ _).alloc (Zd _) _)
 have RB:Blk ((w.alloc (.cells #[.int .i64 p.size,.int .i64 p.next,.slice ea en ec,.slice va vn vc,.slice ra rn rc,.slice la ln lc] 28)).alloc (.cells #[.int .i64 0,.int .i64 0,.slice none 0 0,.slice none 0 0,.slice none 0 0,.slice none 0 0] 28)) (w.heap.size+1) #[.int .i64 0,.int .i64 0,.slice none 0 0,.slice none 0 0,.slice none 0 0,.slice none 0 0] 28:=Blk.new' _ _ _ _ (by simp)
 clear h8
 go_enter func60,ntmps60
 go_wp2_with fail
 generalize (w.alloc (.cells #[.int .i64 p.size,.int .i64 p.next,.slice ea en ec,.slice va vn vc,.slice ra rn rc,.slice la ln lc] 28)).alloc (.cells #[.int .i64 0,.int .i64 0,.slice none 0 0,.slice none 0 0,.slice none 0 0,.slice none 0 0] 28)=W0 at *
 refine (kW W0).mono ?_
 rintro e w1 ⟨⟨wa,wn,wq,rfl,qx,R1⟩,hp⟩
 have hM:Hid (w.heap.size+1<W0.heap.size):=RB.lt
 replace PB:=PB.below hp
 replace RB:=RB.below hp
 replace hp:=Aa h9 hp
 clear h9 kW
 replace E1:=E1.below hp
 replace V1:=V1.below hp
 replace C1:=C1.below hp
 replace C2:=C2.below hp
 replace AL:Al2 (VoR w1 B) vr p.vs:=AL.imp fun _ _ _ h=>h.below hp
 have h3:Hid (vr.length=vn):=V1.sl.len
 have qw:vn<=60000:=by rw[<-h3.out,AL.len];exact Zl hd.vs hK
 obtain⟨b0,b1,b2,b3,b4,b5⟩:=PB.sixM
 go_upto_if 22 with fail
 obtain⟨xv,qi⟩:∃ xv,Hid (Dn vr=xv):=⟨_,rfl⟩
 go_cut [7] (fun x wc=>x=.int .i64 xv∧wc=w1)
 case first=>
  rcases Nat.eq_zero_or_pos vn with h0 | h0
  ·subst h0
   have hx:xv=-1:=by rw[<-qi.out,Dn,Zt h3.out];rfl
   go_wp2
   go_meet
   exact⟨by rw[hx],rfl⟩
  ·obtain⟨k,rfl⟩:∃ k,vn=k+1:=⟨vn-1,by omega⟩
   obtain⟨l',r,rfl,qo⟩:=Cs h3.out
   have hr:(l'++[r])[k]?=some r:=by rw[<-qo];simp
   obtain⟨vb,rfl,qv,c3⟩:=FQ V1 hr
   have hx:Hid (xv=(r.n:Int)-1):=by show _=_;rw[<-qi.out,Dn];simp
   have qu:r.n<=60000:=by
    obtain⟨m',y,hm,_,hv⟩:=AL.lastL
    have h1:=(hd.its y (by rw[hm];simp)).1
    rw[<-hv.its.len,hv.rows.sl.len] at h1
    omega
   have qt:((k+1:Nat):Int)-1=k:=by omega
   go_wp2
   go_meet
   exact⟨by rw[hx.out],rfl⟩
 case rest=>
  obtain⟨rfl,rfl⟩:=hcut
  have kN:=fun (i:Nat) (x:World) (hx:Below wc.heap.size wc x)=>Bm wa wn wq (ws.map bA) i x (R1.sl.below hx) hC
  have kW:=fun (i:Nat) (x:World) (hx:Below wc.heap.size wc x)=>BR wa wn wq (ws.map bA) i x (R1.sl.below hx)
  have k1:=kN 1
  have k2:=kN 2
  have k3:=kW 3
  have k4:=kW 4
  simp only[Dc] at k1 k2
  simp only[Dd] at k3 k4
  obtain⟨n1,hA⟩:∃ z,Hid (Di ws 1=z):=⟨_,rfl⟩
  obtain⟨n2,hT⟩:∃ z,Hid (Di ws 2=z):=⟨_,rfl⟩
  obtain⟨t3,hX⟩:∃ z,Hid (bA (AY ws 3)=z):=⟨_,rfl⟩
  obtain⟨t4,hZ⟩:∃ z,Hid (bA (AY ws 4)=z):=⟨_,rfl⟩
  rw[hA.out] at k1
  rw[hT.out] at k2
  rw[hX.out] at k3
  rw[hZ.out] at k4
  have qr:t4.size<=100000:=by
   rw[<-hZ.out]
   have:=Dd ws 4
   rw[<-this]
   unfold GB
   cases hc:(ws.map bA)[4]? with
   |none=>show (0:Nat)<=_;omega
   |some x=>exact hC x (Zc hc)
  obtain⟨n4,qp⟩:∃ z,Hid ((numP (AY ws 4)).getD 0=z):=⟨_,rfl⟩
  have qn:Hid (Dz (numP t4.data.toList)=.tuple #[.int .i64 n4,.bool (numP t4.data.toList).isSome]):=by
   show _=_
   rw[<-qp.out,<-hZ.out,Af]
   cases numP (AY ws 4)<;>rfl
  obtain⟨k0,wr,hH⟩:∃ k0 r,ws=k0::r:=by
   cases hc:ws with
   |nil=>exact absurd hc h4.out
   |cons a r=>exact⟨a,r,rfl⟩
  obtain⟨wb,wo,sx,rfl,hV,cw⟩:=FE R1.sl (k:=0) (by rw[<-R1.sl.len,hH];simp)
  have hW:Hid (sx=bA k0):=by show _=_;rw[hH] at hV;exact (Zi hV).symm
  clear kN kW hV
  go_wp2_with fail
  refine (k1 _ (Yg _ _)).mono ?_
  rintro e u ⟨rfl,hu⟩
  subst hu
  go_wp2_with fail
  refine (k2 _ (Yg _ _)).mono ?_
  rintro e u ⟨rfl,hu⟩
  subst hu
  go_wp2_with fail
  refine (k3 _ (Yg _ _)).mono ?_
  rintro e u ⟨rfl,hu⟩
  subst hu
  go_wp2_with fail
  have hO:Below u.heap.size u (u.alloc (.cells #[.int .i64 n1,.int .i64 n2,.string t3,.int .i64 0] 68)):=by go_grown
  have CB:=Blk.new u #[.int .i64 n1,.int .i64 n2,.string t3,.int .i64 0] 68
  generalize u.alloc (.cells #[.int .i64 n1,.int .i64 n2,.string t3,.int .i64 0] 68)=W2 at *
  refine (k4 _ hO).mono ?_
  rintro e x ⟨rfl,hu⟩
  obtain rfl:W2=x:=hu.symm
  go_wp2_with fail
  refine (Cv t4 _ (by omega)).mono ?_
  rintro e x' ⟨rfl,hu⟩
  obtain rfl:W2=x':=hu.symm
  rw[qn.out]
  have y3:=CB.cell 3
  have f3:=CB.frozen 3
  go_upto_region 8 with fail
  have qe:W2.grownBy (W2.setCell ⟨u.heap.size,3,none⟩ (.int .i64 n4)) (some u.heap.size):=af_ (Yh _ _) _ _
  have hN:Blk (W2.setCell ⟨u.heap.size,3,none⟩ (.int .i64 n4)) u.heap.size #[.int .i64 n1,.int .i64 n2,.string t3,.int .i64 n4] 68:=by simpa using CB.set 3 (.int .i64 n4)
  have hq:=ao_ hO qe (Zd _)
  generalize W2.setCell ⟨u.heap.size,3,none⟩ (.int .i64 n4)=W3 at *
  clear qe CB y3 f3 hO W2 b0 b1 b2 b3 b4 b5
  replace PB:=PB.below hq
  replace RB:=RB.below hq
  replace E1:=E1.below hq
  replace V1:=V1.below hq
  replace C1:=C1.below hq
  replace C2:=C2.below hq
  replace R1:=R1.below hq
  replace AL:Al2 (VoR W3 B) vr p.vs:=AL.imp fun _ _ _ h=>h.below hq
  replace cw:=Ab hq cw
  rw[Nat.add_zero] at cw
  have qy:0<wn:=by rw[<-R1.sl.len,hH];simp
  replace hp:=Aa hp hq
  clear hq
  have M3:AE B W3 (.agg #[.int .i64 p.size,.int .i64 p.next,.slice ea en ec,.slice va vn vc,.slice ra rn rc,.slice la ln lc]) p:=⟨ea,en,ec,va,vn,vc,ra,rn,rc,la,ln,lc,vr,rfl,E1,V1,C1,C2,hL,AL,N1,N2⟩
  have ht:Below B w W3:=hp.mono hB
  have hF:Hid (AM p line.data.toList=BG p k0 ws line.data.toList):=by
   show _=_
   unfold AM
   rw[hI.out,hH]
   rfl
  replace hs:Ft k0=0:=by rw[hI.out,hH] at hs;exact hs
  have hh:sx.toList=k0:=by rw[hW.out,Zu,Af]
  by_cases hk:k0=BA
  ·have e1:sx.toList=[112,111,111,108]:=by rw[hh,hk];rfl
   have hP:Hid (AM p line.data.toList={p with size:=n1,next:=n2}):=by show _=_;rw[hF.out,hk];unfold BG;rw[if_pos rfl,hA.out,hT.out]
   clear hh hF
   have k1:=Bm _ wn wq (ws.map bA) 1 W3 R1.sl hC
   rw[Dc,hA.out] at k1
   have p0:=PB.cell 0
   have q0:=PB.frozen 0
   go_wp2_with fail
   refine k1.mono ?_
   rintro e x ⟨rfl,hx⟩
   obtain rfl:W3=x:=hx.symm
   go_upto_region 11 with fail
   obtain⟨hJ,M4,hf,hb⟩:=DD PB ht hB M3 0 (.int .i64 n1)
   have R4:=R1.ty hb (aa_ PB) (by decide)
   have qk:=RB.grown hb (by omega)
   simp only[Yj,Yq] at hJ
   generalize W3.setCell ⟨w.heap.size,0,none⟩ (.int .i64 n1)=W4 at *
   clear hb p0 q0
   have k2:=Bm _ wn wq (ws.map bA) 2 W4 R4.sl hC
   rw[Dc,hT.out] at k2
   have p1:=hJ.cell 1
   have q1:=hJ.frozen 1
   go_wp2_with fail
   refine k2.mono ?_
   rintro e x ⟨rfl,hx⟩
   obtain rfl:W4=x:=hx.symm
   go_upto_region 28 with fail
   obtain⟨hn,M5,hE,qf⟩:=DD hJ hf hB M4 1 (.int .i64 n2)
   have ho:=qk.grown qf (by omega)
   simp only[Yj,Yq,Yr] at hn
   generalize W4.setCell ⟨w.heap.size,1,none⟩ (.int .i64 n2)=W5 at *
   clear qf p1 q1 cw
   obtain⟨v0,v1,v2,v3,v4,v5⟩:=hn.sixM
   obtain⟨r0,r1,r2,r3,r4,r5⟩:=ho.sixM
   have g0:=ho.frozen 0
   have g1:=ho.frozen 1
   have g2:=ho.frozen 2
   have g3:=ho.frozen 3
   have g4:=ho.frozen 4
   have g5:=ho.frozen 5
   go_wp2
   obtain⟨E8,M8,hw⟩:=AA ho hE (by omega) (M5.nums (a':=n1) (b':=n2))
   change bodyPost _ _ _ _ _ (AV W5 (w.heap.size+1) (.int .i64 n1) (.int .i64 n2) (.slice ea en ec) (.slice va vn vc) (.slice ra rn rc) (.slice la ln lc))
   generalize AV W5 (w.heap.size+1) (.int .i64 n1) (.int .i64 n2) (.slice ea en ec) (.slice va vn vc) (.slice ra rn rc) (.slice la ln lc)=W8 at *
   refine YW (results_cell_row rfl _ W8 (w.heap.size+1) _ _ _ _ rfl E8 underlying28 rfl (by kernel_rfl)) rfl ?_
   exact⟨⟨_,rfl,by rw[hP.out];exact M8⟩,hw⟩
  have ha:¬ k0=BA:=hk
  by_cases hkexK:k0=exK
  ·skip
   have epoolK:¬ sx.toList=[112,111,111,108]:=fun e=>ha (by rw[<-hh,e];rfl)
   have eexK:sx.toList=[101,120,116,101,110,116]:=by rw[hh,hkexK];rfl
   obtain⟨r1,hU⟩:∃ z,Hid (bA (ET line.data.toList)=z):=⟨_,rfl⟩
   obtain⟨dt,qc⟩:∃ z,Hid (bA (ET r1.data.toList)=z):=⟨_,rfl⟩
   have hP:Hid (AM p line.data.toList={p with ex:=p.ex++[(⟨n1,dt⟩:Ex)]}):=by
    show _=_
    rw[hF.out]
    unfold BG
    rw[if_neg ha,if_pos hkexK]
    rw[hA.out,<-qc.out,<-hU.out,Af]
   clear hh hF
   obtain⟨xa,xb,qh⟩:=HP line
   obtain⟨ya,yb,qj⟩:=HP r1
   rw[hU.out] at qh
   rw[qc.out] at qj
   have qq:r1.size<=60000:=by rw[<-hU.out];exact Zl (HG line) hl
   have q1:=Dg 32 line W3 (by omega)
   have q2:=Dg 32 r1
   rw[qh] at q1
   rw[qj] at q2
   go_wp2_with fail
   refine q1.mono ?_
   rintro e x ⟨rfl,qa⟩
   go_wp2_with fail
   refine (q2 x (by omega)).mono ?_
   rintro e y ⟨rfl,qb⟩
   go_upto_region 15 with fail
   have hY:=(Aa qa qb).drew
   clear qa qb q1 q2
   replace PB:=PB.below hY
   replace RB:=RB.below hY
   replace R1:=R1.below hY
   have E4:=E1.below hY
   have V4:=V1.below hY
   have D4:=C1.below hY
   have F4:=C2.below hY
   have AL4:Al2 (VoR y.drew B) vr p.vs:=AL.imp fun _ _ _ h=>h.below hY
   have hf:Below B w y.drew:=ht.trans (hY.mono (Zl hB ht.size))
   have qs:en<=60000:=by rw[<-E1.sl.len];exact Zl hd.ex hK
   obtain⟨i0,hS,hM,h6,h7⟩:=info_parts L9
   have ql:(fun u=>u.cell? ⟨w.heap.size,2,none⟩=some (.slice ea en ec)) y.drew:=PB.cell 2
   refine ar_ (S:=(fun u=>u.cell? ⟨w.heap.size,2,none⟩=some (.slice ea en ec))) 9 (by kernel_rfl) (by kernel_rfl) ?_
   generalize y.drew=y0 at *
   clear hY E1 V1 C1 C2 AL M3 ht hN cw
   refine tk 0 ?_
   refine tk 1 ?_
   refine tk 2 ?_
   refine tk 4 ?_
   have k1:=Bm _ wn wq (ws.map bA) 1 y0 R1.sl hC
   rw[Dc,hA.out] at k1
   refine Aq (i:=3) (by kernel_rfl) rfl (fun K hK=>?_)
   go_simp
   refine k1.mono ?_
   rintro e z ⟨rfl,hz⟩
   obtain rfl:y0=z:=hz.symm
   dsimp only
   refine hK.out _ _ (PB.cell 2) (fun hHeld=>?_)
   clear hK K
   try simp only[Act.put,Yj,Yq,Yr]
   refine tk 5 ?_
   refine Aq (i:=6) (by kernel_rfl) rfl (fun K hK=>?_)
   go_simp
   have hg:Below y0.heap.size y0 (y0.alloc (.cells (Ex.cs (⟨n1,dt⟩:Ex)).toArray tE)):=(Yg _ _).alloc (Zd _) _
   have L4:=Ci FZ y0 (⟨n1,dt⟩:Ex) tE _ rfl
   replace PB:=PB.below hg
   replace RB:=RB.below hg
   replace E4:=E4.below hg
   replace V4:=V4.below hg
   replace D4:=D4.below hg
   replace F4:=F4.below hg
   replace AL4:Al2 (VoR (y0.alloc (.cells (Ex.cs (⟨n1,dt⟩:Ex)).toArray tE)) B) vr p.vs:=AL4.imp fun _ _ _ h=>h.below hg
   have h5:=hf.size
   replace hf:=hf.alloc (Zl hB h5) (.cells (Ex.cs (⟨n1,dt⟩:Ex)).toArray tE)
   change K _ (y0.alloc (.cells (Ex.cs (⟨n1,dt⟩:Ex)).toArray tE))
   generalize y0.alloc (.cells (Ex.cs (⟨n1,dt⟩:Ex)).toArray tE)=y1 at *
   clear hg
   refine hK.out _ _ (PB.cell 2) (fun hHeld=>?_)
   clear hK K
   try simp only[Act.put,Yj,Yq,Yr]
   refine Aq (i:=7) (by kernel_rfl) rfl (fun K hK=>?_)
   refine aJ_ rfl (mX_ _ _ 24 rfl B tE i0 (.agg #[.int .i64 0,.string .empty]) 24 underlying24 hS hM h6 h7 rfl (by decide) FZ I4 ea en ec _ rfl E4 _ 1 1 [(⟨n1,dt⟩:Ex)] rfl L4 (fun ad h=>(by cases h;rfl)) (fun h=>(by cases h)) (en+1) rfl (by unfold maxLen;omega) (by omega) (by have:=hf.size;omega) (fun a4 cap4 w4 R4 hb hR=>?_))
   have hj:=E4.rowTy (m:=en) (k:=ec)
   have V5:=V4.ty hb hj (by decide)
   have D5:=D4.ty hb hj (by decide)
   have F5:=F4.ty hb hj (by decide)
   have AL5:Al2 (VoR w4 B) vr p.vs:=AL4.imp fun _ _ _ h=>h.ty hb hj (by decide) (by decide)
   have hn:=PB.ty hb hj (by decide)
   have ho:=RB.ty hb hj (by decide)
   have hE:Below B w w4:=hf.grown hb (by have:=hf.size;omega) (Cg fun ad e=>(E4.block ad e).1)
   have M5:AE B w4 (.agg #[.int .i64 p.size,.int .i64 p.next,.slice a4 (en+1) cap4,.slice va vn vc,.slice ra rn rc,.slice la ln lc]) {p with ex:=p.ex++[(⟨n1,dt⟩:Ex)]}:=⟨a4,en+1,cap4,va,vn,vc,ra,rn,rc,la,ln,lc,vr,rfl,R4,V5,D5,F5,hL,AL5,N1,N2⟩
   clear hj hb hR V5 D5 F5 AL5 R4 V4 D4 F4 AL4 E4 L4 PB RB hf
   refine hK.out _ _ (hn.cell 2) (fun hHeld=>?_)
   clear hK K
   try simp only[Act.put,Yj,Yq,Yr]
   refine tk 8 ?_
   refine wpAnyH_done (by kernel_rfl) ?_ _
   refine lastL rfl ?_
   have p2:=hn.cell 2
   have q2:=hn.frozen 2
   go_upto_region 28 with fail
   obtain⟨hD,M6,hQ,hG⟩:=DD hn hE hB M5 2 (.slice a4 (en+1) cap4)
   have he:=ho.grown hG (by omega)
   simp only[Yj,Yq,Yr] at hD
   generalize w4.setCell ⟨w.heap.size,2,none⟩ (.slice a4 (en+1) cap4)=W6 at *
   clear hG p2 q2
   obtain⟨v0,v1,v2,v3,v4,v5⟩:=hD.sixM
   obtain⟨r0,r1,r2,r3,r4,r5⟩:=he.sixM
   have g0:=he.frozen 0
   have g1:=he.frozen 1
   have g2:=he.frozen 2
   have g3:=he.frozen 3
   have g4:=he.frozen 4
   have g5:=he.frozen 5
   go_wp2
   obtain⟨E8,M8,hw⟩:=AA he hQ (by omega) (M6)
   change bodyPost _ _ _ _ _ (AV W6 (w.heap.size+1) (.int .i64 p.size) (.int .i64 p.next) (.slice a4 (en+1) cap4) (.slice va vn vc) (.slice ra rn rc) (.slice la ln lc))
   generalize AV W6 (w.heap.size+1) (.int .i64 p.size) (.int .i64 p.next) (.slice a4 (en+1) cap4) (.slice va vn vc) (.slice ra rn rc) (.slice la ln lc)=W8 at *
   refine YW (results_cell_row rfl _ W8 (w.heap.size+1) _ _ _ _ rfl E8 underlying28 rfl (by kernel_rfl)) rfl ?_
   exact⟨⟨_,rfl,by rw[hP.out];exact M8⟩,hw⟩
  by_cases hkvolK:k0=Cl
  ·skip
   have epoolK:¬ sx.toList=[112,111,111,108]:=fun e=>ha (by rw[<-hh,e];rfl)
   have eexK:¬ sx.toList=[101,120,116,101,110,116]:=fun e=>hkexK (by rw[<-hh,e];rfl)
   have evolK:sx.toList=[118,111,108,117,109,101]:=by rw[hh,hkvolK];rfl
   obtain⟨t2,qg⟩:∃ z,Hid (bA (AY ws 2)=z):=⟨_,rfl⟩
   obtain⟨fx,qd⟩:∃ z,Hid ((AY ws 3==[49])=z):=⟨_,rfl⟩
   have hP:Hid (AM p line.data.toList={p with vs:=p.vs++[⟨n1,t2,fx,[]⟩]}):=by
    show _=_
    rw[hF.out]
    unfold BG
    rw[if_neg ha,if_neg hkexK,if_pos hkvolK]
    rw[Lg,hA.out,qg.out,qd.out]
   clear hh hF
   have qm:(t3.toList==[49])=fx:=by rw[<-qd.out,<-hX.out,Zu,Af]
   go_upto_region 17 with fail
   have hY:Below W3.heap.size W3 W3.drew:=(Yg _ _).drew
   replace PB:=PB.below hY
   replace RB:=RB.below hY
   replace R1:=R1.below hY
   have E4:=E1.below hY
   have V4:=V1.below hY
   have D4:=C1.below hY
   have F4:=C2.below hY
   have AL4:Al2 (VoR W3.drew B) vr p.vs:=AL.imp fun _ _ _ h=>h.below hY
   have hf:Below B w W3.drew:=ht.drew
   obtain⟨i0,hS,hM,h6,h7⟩:=info_parts Mc
   have ql:(fun u=>u.cell? ⟨w.heap.size,3,none⟩=some (.slice va vn vc)) W3.drew:=PB.cell 3
   refine ar_ (S:=(fun u=>u.cell? ⟨w.heap.size,3,none⟩=some (.slice va vn vc))) 13 (by kernel_rfl) (by kernel_rfl) ?_
   generalize W3.drew=y0 at *
   clear hY E1 V1 C1 C2 AL M3 ht hN cw
   refine tk 0 ?_
   refine tk 1 ?_
   refine tk 2 ?_
   refine tk 4 ?_
   refine tk 6 ?_
   have k1:=Bm _ wn wq (ws.map bA) 1 y0 R1.sl hC
   rw[Dc,hA.out] at k1
   have k2:=BR _ wn wq (ws.map bA) 2 y0 R1.sl
   rw[Dd,qg.out] at k2
   have k3:=BR _ wn wq (ws.map bA) 3 y0 R1.sl
   rw[Dd,hX.out] at k3
   refine Aq (i:=3) (by kernel_rfl) rfl (fun K hK=>?_)
   go_simp
   refine k1.mono ?_
   rintro e z ⟨rfl,hz⟩
   obtain rfl:y0=z:=hz.symm
   dsimp only
   refine hK.out _ _ (PB.cell 3) (fun hHeld=>?_)
   clear hK K
   try simp only[Act.put,Yj,Yq,Yr]
   refine Aq (i:=5) (by kernel_rfl) rfl (fun K hK=>?_)
   go_simp
   refine k2.mono ?_
   rintro e z ⟨rfl,hz⟩
   obtain rfl:y0=z:=hz.symm
   dsimp only
   refine hK.out _ _ (PB.cell 3) (fun hHeld=>?_)
   clear hK K
   try simp only[Act.put,Yj,Yq,Yr]
   refine Aq (i:=7) (by kernel_rfl) rfl (fun K hK=>?_)
   go_simp
   refine k3.mono ?_
   rintro e z ⟨rfl,hz⟩
   obtain rfl:y0=z:=hz.symm
   dsimp only
   refine hK.out _ _ (PB.cell 3) (fun hHeld=>?_)
   clear hK K
   try simp only[Act.put,Yj,Yq,Yr]
   refine tk 8 ?_
   refine tk 9 ?_
   refine Aq (i:=10) (by kernel_rfl) rfl (fun K hK=>?_)
   go_simp
   have hg:Below y0.heap.size y0 (y0.alloc (.cells (VQ.cs (⟨n1,t2,fx,none,0,0,[]⟩:VQ)).toArray tV)):=(Yg _ _).alloc (Zd _) _
   have L4:=Ci Fk y0 (⟨n1,t2,fx,none,0,0,[]⟩:VQ) tV _ rfl
   replace PB:=PB.below hg
   replace RB:=RB.below hg
   replace E4:=E4.below hg
   replace V4:=V4.below hg
   replace D4:=D4.below hg
   replace F4:=F4.below hg
   replace AL4:Al2 (VoR (y0.alloc (.cells (VQ.cs (⟨n1,t2,fx,none,0,0,[]⟩:VQ)).toArray tV)) B) vr p.vs:=AL4.imp fun _ _ _ h=>h.below hg
   have h5:=hf.size
   replace hf:=hf.alloc (Zl hB h5) (.cells (VQ.cs (⟨n1,t2,fx,none,0,0,[]⟩:VQ)).toArray tV)
   change K _ (y0.alloc (.cells (VQ.cs (⟨n1,t2,fx,none,0,0,[]⟩:VQ)).toArray tV))
   generalize y0.alloc (.cells (VQ.cs (⟨n1,t2,fx,none,0,0,[]⟩:VQ)).toArray tV)=y1 at *
   clear hg
   refine hK.out _ _ (PB.cell 3) (fun hHeld=>?_)
   clear hK K
   try simp only[Act.put,Yj,Yq,Yr]
   refine Aq (i:=11) (by kernel_rfl) rfl (fun K hK=>?_)
   refine aJ_ rfl (mX_ _ _ 25 rfl B tV i0 (.agg #[.int .i64 0,.string .empty,.bool false,.slice none 0 0]) 56 underlying25 hS hM h6 h7 rfl (by decide) Fk Lj va vn vc _ rfl V4 _ 1 1 [(⟨n1,t2,fx,none,0,0,[]⟩:VQ)] rfl L4 (fun ad h=>(by cases h;rfl)) (fun h=>(by cases h)) (vn+1) rfl (by unfold maxLen;omega) (by omega) (by have:=hf.size;omega) (fun a4 cap4 w4 R4 hb hR=>?_))
   have hj:=V4.rowTy (m:=vn) (k:=vc)
   have E5:=E4.ty hb hj (by decide)
   have D5:=D4.ty hb hj (by decide)
   have F5:=F4.ty hb hj (by decide)
   have AL5:Al2 (VoR w4 B) vr p.vs:=AL4.imp fun _ _ _ h=>h.ty hb hj (by decide) (by decide)
   have AL6:Al2 (VoR w4 B) (vr++[(⟨n1,t2,fx,none,0,0,[]⟩:VQ)]) (p.vs++[⟨n1,t2,fx,[]⟩]):=AL5.snoc ⟨rfl,rfl,rfl,aB_,.nil⟩
   have NA:(Eu (vr++[(⟨n1,t2,fx,none,0,0,[]⟩:VQ)])).Nodup:=by rw[Kf];exact N1
   have NB:(DS (vr++[(⟨n1,t2,fx,none,0,0,[]⟩:VQ)])).Nodup:=by rw[K0];exact N2
   have hn:=PB.ty hb hj (by decide)
   have ho:=RB.ty hb hj (by decide)
   have hE:Below B w w4:=hf.grown hb (by have:=hf.size;omega) (Cg fun ad e=>(V4.block ad e).1)
   have M5:AE B w4 (.agg #[.int .i64 p.size,.int .i64 p.next,.slice ea en ec,.slice a4 (vn+1) cap4,.slice ra rn rc,.slice la ln lc]) {p with vs:=p.vs++[⟨n1,t2,fx,[]⟩]}:=⟨ea,en,ec,a4,vn+1,cap4,ra,rn,rc,la,ln,lc,_,rfl,E5,R4,D5,F5,hL,AL6,NA,NB⟩
   clear hj hb hR E5 D5 F5 AL5 AL6 NA NB R4 V4 D4 F4 AL4 E4 L4 PB RB hf
   refine hK.out _ _ (hn.cell 3) (fun hHeld=>?_)
   clear hK K
   try simp only[Act.put,Yj,Yq,Yr]
   refine tk 12 ?_
   refine wpAnyH_done (by kernel_rfl) ?_ _
   refine lastL rfl ?_
   have p2:=hn.cell 3
   have q2:=hn.frozen 3
   go_upto_region 28 with fail
   obtain⟨hD,M6,hQ,hG⟩:=DD hn hE hB M5 3 (.slice a4 (vn+1) cap4)
   have he:=ho.grown hG (by omega)
   simp only[Yj,Yq,Yr] at hD
   generalize w4.setCell ⟨w.heap.size,3,none⟩ (.slice a4 (vn+1) cap4)=W6 at *
   clear hG p2 q2
   obtain⟨v0,v1,v2,v3,v4,v5⟩:=hD.sixM
   obtain⟨r0,r1,r2,r3,r4,r5⟩:=he.sixM
   have g0:=he.frozen 0
   have g1:=he.frozen 1
   have g2:=he.frozen 2
   have g3:=he.frozen 3
   have g4:=he.frozen 4
   have g5:=he.frozen 5
   go_wp2
   obtain⟨E8,M8,hw⟩:=AA he hQ (by omega) (M6)
   change bodyPost _ _ _ _ _ (AV W6 (w.heap.size+1) (.int .i64 p.size) (.int .i64 p.next) (.slice ea en ec) (.slice a4 (vn+1) cap4) (.slice ra rn rc) (.slice la ln lc))
   generalize AV W6 (w.heap.size+1) (.int .i64 p.size) (.int .i64 p.next) (.slice ea en ec) (.slice a4 (vn+1) cap4) (.slice ra rn rc) (.slice la ln lc)=W8 at *
   refine YW (results_cell_row rfl _ W8 (w.heap.size+1) _ _ _ _ rfl E8 underlying28 rfl (by kernel_rfl)) rfl ?_
   exact⟨⟨_,rfl,by rw[hP.out];exact M8⟩,hw⟩
  by_cases hkfileK:k0=Bz
  ·skip
   rw[hkfileK] at hs
   exact absurd hs (by decide)
  by_cases hkpartK:k0=partK
  ·skip
   rw[hkpartK] at hs
   exact absurd hs (by decide)
  by_cases hkrefK:k0=B7
  ·skip
   rw[hkrefK] at hs
   exact absurd hs (by decide)
  by_cases hklateK:k0=Bj
  ·skip
   rw[hklateK] at hs
   exact absurd hs (by decide)
  have epoolK:¬ sx.toList=[112,111,111,108]:=fun e=>ha (by rw[<-hh,e];rfl)
  have eexK:¬ sx.toList=[101,120,116,101,110,116]:=fun e=>hkexK (by rw[<-hh,e];rfl)
  have evolK:¬ sx.toList=[118,111,108,117,109,101]:=fun e=>hkvolK (by rw[<-hh,e];rfl)
  have efileK:¬ sx.toList=[102,105,108,101]:=fun e=>hkfileK (by rw[<-hh,e];rfl)
  have epartK:¬ sx.toList=[112,97,114,116]:=fun e=>hkpartK (by rw[<-hh,e];rfl)
  have erefK:¬ sx.toList=[114,101,102]:=fun e=>hkrefK (by rw[<-hh,e];rfl)
  have elateK:¬ sx.toList=[108,97,116,101]:=fun e=>hklateK (by rw[<-hh,e];rfl)
  have fpoolK:(sx.toList==[112,111,111,108])=false:=ZV.2 epoolK
  have fexK:(sx.toList==[101,120,116,101,110,116])=false:=ZV.2 eexK
  have fvolK:(sx.toList==[118,111,108,117,109,101])=false:=ZV.2 evolK
  have ffileK:(sx.toList==[102,105,108,101])=false:=ZV.2 efileK
  have fpartK:(sx.toList==[112,97,114,116])=false:=ZV.2 epartK
  have frefK:(sx.toList==[114,101,102])=false:=ZV.2 erefK
  have flateK:(sx.toList==[108,97,116,101])=false:=ZV.2 elateK
  have hP:Hid (AM p line.data.toList=p):=by
   show _=_
   rw[hF.out]
   unfold BG
   rw[if_neg ha,if_neg hkexK,if_neg hkvolK,if_neg hkfileK,if_neg hkpartK,if_neg hkrefK,if_neg hklateK]
  clear hh hF
  go_upto_region 28 with fail
  clear E1 V1 C1 C2 AL hN R1 cw k1 k2 k3 k4 hC hL N1 N2
  obtain⟨v0,v1,v2,v3,v4,v5⟩:=PB.sixM
  obtain⟨r0,r1,r2,r3,r4,r5⟩:=RB.sixM
  have g0:=RB.frozen 0
  have g1:=RB.frozen 1
  have g2:=RB.frozen 2
  have g3:=RB.frozen 3
  have g4:=RB.frozen 4
  have g5:=RB.frozen 5
  go_wp2
  obtain⟨E8,M8,hw⟩:=AA RB ht (by omega) (M3)
  change bodyPost _ _ _ _ _ (AV W3 (w.heap.size+1) (.int .i64 p.size) (.int .i64 p.next) (.slice ea en ec) (.slice va vn vc) (.slice ra rn rc) (.slice la ln lc))
  generalize AV W3 (w.heap.size+1) (.int .i64 p.size) (.int .i64 p.next) (.slice ea en ec) (.slice va vn vc) (.slice ra rn rc) (.slice la ln lc)=W8 at *
  refine YW (results_cell_row rfl _ W8 (w.heap.size+1) _ _ _ _ rfl E8 underlying28 rfl (by kernel_rfl)) rfl ?_
  exact⟨⟨_,rfl,by rw[hP.out];exact M8⟩,hw⟩
theorem Hx (B K:Nat)(v:Value)(p:Po)(line:ByteArray)(w:World)(h:AE B w v p)(hB:B<=w.heap.size)(hK:K<=60000)(hd:Fm K p)(hl:line.size<=60000)(he:Ft (AY (Cm line.data.toList) 0)=1) :
  Calls prog 60 #[v,.string line] w fun e w'=>(∃ v',e=.returned v'∧AE B w' v' (AM p line.data.toList))∧Below B w w':=by
 obtain⟨ea,en,ec,va,vn,vc,ra,rn,rc,la,ln,lc,vr,rfl,E1,V1,C1,C2,hQ,AL,N1,N2⟩:=h.out
 clear h
 obtain⟨ws,hG⟩:∃ ws,Hid (Cm line.data.toList=ws):=⟨_,rfl⟩
 have kW:=fun (u:World)=>CW line u (by omega)
 rw[hG.out] at kW
 have hW:Hid (ws≠[]):=by show _≠_;rw[<-hG.out];exact Fl _ _
 have hV:∀ x∈ws.map bA,x.size<=100000:=by
  intro x hx
  obtain⟨y,hy,rfl⟩:=ZT.1 hx
  rw[<-hG.out] at hy
  have:=C0 y hy
  rw[Lib.size_eq,Af]
  have h2:=Lib.size_eq line
  omega
 have hZ:=Blk.new w #[.int .i64 p.size,.int .i64 p.next,.slice ea en ec,.slice va vn vc,.slice ra rn rc,.slice la ln lc] 28
 have h5:Below w.heap.size w ((w.alloc (.cells #[.int .i64 p.size,.int .i64 p.next,.slice ea en ec,.slice va vn vc,.slice ra rn rc,.slice la ln lc] 28)).alloc (.cells #[.int .i64 0,.int .i64 0,.slice none 0 0,.slice none 0 0,.slice none 0 0,.slice none 0 0] 28)):=by go_grown
 have PB:Blk ((w.alloc (.cells #[.int .i64 p.size,.int .i64 p.next,.slice ea en ec,.slice va vn vc,.slice ra rn rc,.slice la ln lc] 28)).alloc (.cells #[.int .i64 0,.int .i64 0,.slice none 0 0,.slice none 0 0,.slice none 0 0,.slice none 0 0] 28)) w.heap.size #[.int .i64 p.size,.int .i64 p.next,.slice ea en ec,.slice va vn vc,.slice ra rn rc,.slice la ln lc] 28:=hZ.below ((Yg _ _).alloc (Zd _) _)
 have RB:Blk ((w.alloc (.cells #[.int .i64 p.size,.int .i64 p.next,.slice ea en ec,.slice va vn vc,.slice ra rn rc,.slice la ln lc] 28)).alloc (.cells #[.int .i64 0,.int .i64 0,.slice none 0 0,.slice none 0 0,.slice none 0 0,.slice none 0 0] 28)) (w.heap.size+1) #[.int .i64 0,.int .i64 0,.slice none 0 0,.slice none 0 0,.slice none 0 0,.slice none 0 0] 28:=Blk.new' _ _ _ _ (by simp)
 clear hZ
 go_enter func60,ntmps60
 go_wp2_with fail
 generalize (w.alloc (.cells #[.int .i64 p.size,.int .i64 p.next,.slice ea en ec,.slice va vn vc,.slice ra rn rc,.slice la ln lc] 28)).alloc (.cells #[.int .i64 0,.int .i64 0,.slice none 0 0,.slice none 0 0,.slice none 0 0,.slice none 0 0] 28)=W0 at *
 refine (kW W0).mono ?_
 rintro e w1 ⟨⟨wa,wn,wq,rfl,qt,R1⟩,hf⟩
 have qd:Hid (w.heap.size+1<W0.heap.size):=RB.lt
 replace PB:=PB.below hf
 replace RB:=RB.below hf
 replace hf:=Aa h5 hf
 clear h5 kW
 replace E1:=E1.below hf
 replace V1:=V1.below hf
 replace C1:=C1.below hf
 replace C2:=C2.below hf
 replace AL:Al2 (VoR w1 B) vr p.vs:=AL.imp fun _ _ _ h=>h.below hf
 have hE:Hid (vr.length=vn):=V1.sl.len
 have qs:vn<=60000:=by rw[<-hE.out,AL.len];exact Zl hd.vs hK
 obtain⟨b0,b1,b2,b3,b4,b5⟩:=PB.sixM
 go_upto_if 22 with fail
 obtain⟨xv,qc⟩:∃ xv,Hid (Dn vr=xv):=⟨_,rfl⟩
 go_cut [7] (fun x wc=>x=.int .i64 xv∧wc=w1)
 case first=>
  rcases Nat.eq_zero_or_pos vn with h0 | h0
  ·subst h0
   have hx:xv=-1:=by rw[<-qc.out,Dn,Zt hE.out];rfl
   go_wp2
   go_meet
   exact⟨by rw[hx],rfl⟩
  ·obtain⟨k,rfl⟩:∃ k,vn=k+1:=⟨vn-1,by omega⟩
   obtain⟨l',r,rfl,hH⟩:=Cs hE.out
   have hr:(l'++[r])[k]?=some r:=by rw[<-hH];simp
   obtain⟨vb,rfl,qb,c3⟩:=FQ V1 hr
   have hx:Hid (xv=(r.n:Int)-1):=by show _=_;rw[<-qc.out,Dn];simp
   have qj:r.n<=60000:=by
    obtain⟨m',y,hm,_,hv⟩:=AL.lastL
    have h1:=(hd.its y (by rw[hm];simp)).1
    rw[<-hv.its.len,hv.rows.sl.len] at h1
    omega
   have qq:((k+1:Nat):Int)-1=k:=by omega
   go_wp2
   go_meet
   exact⟨by rw[hx.out],rfl⟩
 case rest=>
  obtain⟨rfl,rfl⟩:=hcut
  have kN:=fun (i:Nat) (x:World) (hx:Below wc.heap.size wc x)=>Bm wa wn wq (ws.map bA) i x (R1.sl.below hx) hV
  have kW:=fun (i:Nat) (x:World) (hx:Below wc.heap.size wc x)=>BR wa wn wq (ws.map bA) i x (R1.sl.below hx)
  have k1:=kN 1
  have k2:=kN 2
  have k3:=kW 3
  have k4:=kW 4
  simp only[Dc] at k1 k2
  simp only[Dd] at k3 k4
  obtain⟨n1,qg⟩:∃ z,Hid (Di ws 1=z):=⟨_,rfl⟩
  obtain⟨n2,qh⟩:∃ z,Hid (Di ws 2=z):=⟨_,rfl⟩
  obtain⟨t3,qk⟩:∃ z,Hid (bA (AY ws 3)=z):=⟨_,rfl⟩
  obtain⟨t4,hU⟩:∃ z,Hid (bA (AY ws 4)=z):=⟨_,rfl⟩
  rw[qg.out] at k1
  rw[qh.out] at k2
  rw[qk.out] at k3
  rw[hU.out] at k4
  have ql:t4.size<=100000:=by
   rw[<-hU.out]
   have:=Dd ws 4
   rw[<-this]
   unfold GB
   cases hc:(ws.map bA)[4]? with
   |none=>show (0:Nat)<=_;omega
   |some x=>exact hV x (Zc hc)
  obtain⟨n4,qi⟩:∃ z,Hid ((numP (AY ws 4)).getD 0=z):=⟨_,rfl⟩
  have qf:Hid (Dz (numP t4.data.toList)=.tuple #[.int .i64 n4,.bool (numP t4.data.toList).isSome]):=by
   show _=_
   rw[<-qi.out,<-hU.out,Af]
   cases numP (AY ws 4)<;>rfl
  obtain⟨k0,wr,hC⟩:∃ k0 r,ws=k0::r:=by
   cases hc:ws with
   |nil=>exact absurd hc hW.out
   |cons a r=>exact⟨a,r,rfl⟩
  obtain⟨wb,wo,sx,rfl,hS,cw⟩:=FE R1.sl (k:=0) (by rw[<-R1.sl.len,hC];simp)
  have hT:Hid (sx=bA k0):=by show _=_;rw[hC] at hS;exact (Zi hS).symm
  clear kN kW hS
  go_wp2_with fail
  refine (k1 _ (Yg _ _)).mono ?_
  rintro e u ⟨rfl,hu⟩
  subst hu
  go_wp2_with fail
  refine (k2 _ (Yg _ _)).mono ?_
  rintro e u ⟨rfl,hu⟩
  subst hu
  go_wp2_with fail
  refine (k3 _ (Yg _ _)).mono ?_
  rintro e u ⟨rfl,hu⟩
  subst hu
  go_wp2_with fail
  have hJ:Below u.heap.size u (u.alloc (.cells #[.int .i64 n1,.int .i64 n2,.string t3,.int .i64 0] 68)):=by go_grown
  have CB:=Blk.new u #[.int .i64 n1,.int .i64 n2,.string t3,.int .i64 0] 68
  generalize u.alloc (.cells #[.int .i64 n1,.int .i64 n2,.string t3,.int .i64 0] 68)=W2 at *
  refine (k4 _ hJ).mono ?_
  rintro e x ⟨rfl,hu⟩
  obtain rfl:W2=x:=hu.symm
  go_wp2_with fail
  refine (Cv t4 _ (by omega)).mono ?_
  rintro e x' ⟨rfl,hu⟩
  obtain rfl:W2=x':=hu.symm
  rw[qf.out]
  have y3:=CB.cell 3
  have f3:=CB.frozen 3
  go_upto_region 8 with fail
  have h9:W2.grownBy (W2.setCell ⟨u.heap.size,3,none⟩ (.int .i64 n4)) (some u.heap.size):=af_ (Yh _ _) _ _
  have hX:Blk (W2.setCell ⟨u.heap.size,3,none⟩ (.int .i64 n4)) u.heap.size #[.int .i64 n1,.int .i64 n2,.string t3,.int .i64 n4] 68:=by simpa using CB.set 3 (.int .i64 n4)
  have hg:=ao_ hJ h9 (Zd _)
  generalize W2.setCell ⟨u.heap.size,3,none⟩ (.int .i64 n4)=W3 at *
  clear h9 CB y3 f3 hJ W2 b0 b1 b2 b3 b4 b5
  replace PB:=PB.below hg
  replace RB:=RB.below hg
  replace E1:=E1.below hg
  replace V1:=V1.below hg
  replace C1:=C1.below hg
  replace C2:=C2.below hg
  replace R1:=R1.below hg
  replace AL:Al2 (VoR W3 B) vr p.vs:=AL.imp fun _ _ _ h=>h.below hg
  replace cw:=Ab hg cw
  rw[Nat.add_zero] at cw
  have qu:0<wn:=by rw[<-R1.sl.len,hC];simp
  replace hf:=Aa hf hg
  clear hg
  have M3:AE B W3 (.agg #[.int .i64 p.size,.int .i64 p.next,.slice ea en ec,.slice va vn vc,.slice ra rn rc,.slice la ln lc]) p:=⟨ea,en,ec,va,vn,vc,ra,rn,rc,la,ln,lc,vr,rfl,E1,V1,C1,C2,hQ,AL,N1,N2⟩
  have hL:Below B w W3:=hf.mono hB
  have hF:Hid (AM p line.data.toList=BG p k0 ws line.data.toList):=by
   show _=_
   unfold AM
   rw[hG.out,hC]
   rfl
  replace he:Ft k0=1:=by rw[hG.out,hC] at he;exact he
  have hA:sx.toList=k0:=by rw[hT.out,Zu,Af]
  by_cases hk:k0=BA
  ·rw[hk] at he
   exact absurd he (by decide)
  have hb:¬ k0=BA:=hk
  by_cases hkexK:k0=exK
  ·skip
   rw[hkexK] at he
   exact absurd he (by decide)
  by_cases hkvolK:k0=Cl
  ·skip
   rw[hkvolK] at he
   exact absurd he (by decide)
  by_cases hkfileK:k0=Bz
  ·skip
   have epoolK:¬ sx.toList=[112,111,111,108]:=fun e=>hb (by rw[<-hA,e];rfl)
   have eexK:¬ sx.toList=[101,120,116,101,110,116]:=fun e=>hkexK (by rw[<-hA,e];rfl)
   have evolK:¬ sx.toList=[118,111,108,117,109,101]:=fun e=>hkvolK (by rw[<-hA,e];rfl)
   have efileK:sx.toList=[102,105,108,101]:=by rw[hA,hkfileK];rfl
   rcases Nat.eq_zero_or_pos vn with h0 | h0
   ·subst h0
    have hR:p.vs=[]:=Zt (by rw[<-AL.len,hE.out])
    have hP:Hid (AM p line.data.toList=p):=by
     show _=_
     rw[hF.out]
     unfold BG
     rw[if_neg hb,if_neg hkexK,if_neg hkvolK,if_pos hkfileK]
     rw[hR];show ({p with vs:=[]}:Po)=p;rw[<-hR]
    clear hA hF hR
    go_upto_region 28 with fail
    clear E1 V1 C1 C2 AL hX R1 cw k1 k2 k3 k4 hV hQ N1 N2
    obtain⟨v0,v1,v2,v3,v4,v5⟩:=PB.sixM
    obtain⟨r0,r1,r2,r3,r4,r5⟩:=RB.sixM
    have g0:=RB.frozen 0
    have g1:=RB.frozen 1
    have g2:=RB.frozen 2
    have g3:=RB.frozen 3
    have g4:=RB.frozen 4
    have g5:=RB.frozen 5
    go_wp2
    obtain⟨E8,M8,hN⟩:=AA RB hL (by omega) (M3)
    change bodyPost _ _ _ _ _ (AV W3 (w.heap.size+1) (.int .i64 p.size) (.int .i64 p.next) (.slice ea en ec) (.slice va 0 vc) (.slice ra rn rc) (.slice la ln lc))
    generalize AV W3 (w.heap.size+1) (.int .i64 p.size) (.int .i64 p.next) (.slice ea en ec) (.slice va 0 vc) (.slice ra rn rc) (.slice la ln lc)=W8 at *
    refine YW (results_cell_row rfl _ W8 (w.heap.size+1) _ _ _ _ rfl E8 underlying28 rfl (by kernel_rfl)) rfl ?_
    exact⟨⟨_,rfl,by rw[hP.out];exact M8⟩,hN⟩
   ·obtain⟨k,rfl⟩:∃ k,vn=k+1:=⟨vn-1,by omega⟩
    obtain⟨l',r,rfl,hH⟩:=Cs hE.out
    have hr:(l'++[r])[k]?=some r:=by rw[<-hH];simp
    obtain⟨m',u0,hm,AL',hv⟩:=AL.lastL
    obtain⟨vb,rfl,qb,c3⟩:=FQ V1 hr
    have qj:r.n<=60000:=by
     have h1:=(hd.its u0 (by rw[hm];simp)).1
     rw[<-hv.its.len,hv.rows.sl.len] at h1
     omega
    obtain⟨t1,qa⟩:∃ z,Hid (bA (AY ws 1)=z):=⟨_,rfl⟩
    have hP:Hid (AM p line.data.toList={p with vs:=m'++[{u0 with its:=u0.its++[⟨t1,[]⟩]}]}):=by
     show _=_
     rw[hF.out]
     unfold BG
     rw[if_neg hb,if_neg hkexK,if_neg hkvolK,if_pos hkfileK]
     rw[hm,Cu,qa.out]
    clear hA hF
    go_upto_region 20 with fail
    rw[show ((k+1:Nat):Int)-1=(k:Int) by omega]
    have hY:Below W3.heap.size W3 W3.drew:=(Yg _ _).drew
    replace PB:=PB.below hY
    replace RB:=RB.below hY
    replace R1:=R1.below hY
    replace c3:=Ab hY c3
    have E4:=E1.below hY
    have V4:=V1.below hY
    have D4:=C1.below hY
    have F4:=C2.below hY
    have AL4:Al2 (VoR W3.drew B) l' m':=AL'.imp fun _ _ _ h=>h.below hY
    have ho:=hv.below hY
    have hw:Below B w W3.drew:=hL.drew
    obtain⟨i0,qe,qd,qn,qo⟩:=info_parts Ma
    have qr:(k:Int)<k+1:=by omega
    have qp:(fun u=>u.cell? ⟨w.heap.size,3,none⟩=some (.slice (some ⟨vb,0,none⟩) (k+1) vc)∧u.cell? ⟨vb,k*4+3,none⟩=some (.slice r.a r.n r.c)) W3.drew:=⟨PB.cell 3,c3⟩
    refine ar_ (S:=(fun u=>u.cell? ⟨w.heap.size,3,none⟩=some (.slice (some ⟨vb,0,none⟩) (k+1) vc)∧u.cell? ⟨vb,k*4+3,none⟩=some (.slice r.a r.n r.c))) 16 (by kernel_rfl) (by kernel_rfl) ?_
    generalize W3.drew=y0 at *
    clear hY E1 V1 C1 C2 AL AL' M3 hL hX cw hv
    refine tk 0 ?_
    refine tk 1 ?_
    refine tk 2 ?_
    refine tk 3 ?_
    refine tk 4 ?_
    refine tk 5 ?_
    refine tk 6 ?_
    refine tk 7 ?_
    refine tk 8 ?_
    refine tk 9 ?_
    have k1:=BR _ wn wq (ws.map bA) 1 y0 R1.sl
    rw[Dd,qa.out] at k1
    refine Aq (i:=10) (by kernel_rfl) rfl (fun K hK=>?_)
    go_simp
    refine k1.mono ?_
    rintro e z ⟨rfl,hz⟩
    obtain rfl:y0=z:=hz.symm
    dsimp only
    refine hK.out _ _ ⟨PB.cell 3,c3⟩ (fun hHeld=>?_)
    clear hK K
    try simp only[Act.put,Yj,Yq,Yr]
    refine tk 11 ?_
    refine Aq (i:=12) (by kernel_rfl) rfl (fun K hK=>?_)
    go_simp
    have hh:Below y0.heap.size y0 (y0.alloc (.cells (IQ.cs (⟨t1,none,0,0⟩:IQ)).toArray tI)):=(Yg _ _).alloc (Zd _) _
    have L4:=Ci Fb y0 (⟨t1,none,0,0⟩:IQ) tI _ rfl
    replace PB:=PB.below hh
    replace RB:=RB.below hh
    replace c3:=Ab hh c3
    replace E4:=E4.below hh
    replace V4:=V4.below hh
    replace D4:=D4.below hh
    replace F4:=F4.below hh
    replace AL4:Al2 (VoR (y0.alloc (.cells (IQ.cs (⟨t1,none,0,0⟩:IQ)).toArray tI)) B) l' m':=AL4.imp fun _ _ _ h=>h.below hh
    replace ho:=ho.below hh
    have qm:=hw.size
    replace hw:=hw.alloc (Zl hB qm) (.cells (IQ.cs (⟨t1,none,0,0⟩:IQ)).toArray tI)
    change K _ (y0.alloc (.cells (IQ.cs (⟨t1,none,0,0⟩:IQ)).toArray tI))
    generalize y0.alloc (.cells (IQ.cs (⟨t1,none,0,0⟩:IQ)).toArray tI)=y1 at *
    clear hh
    refine hK.out _ _ ⟨PB.cell 3,c3⟩ (fun hHeld=>?_)
    clear hK K
    try simp only[Act.put,Yj,Yq,Yr]
    refine Aq (i:=13) (by kernel_rfl) rfl (fun K hK=>?_)
    refine aJ_ rfl (mX_ _ _ 78 rfl B tI i0 (.agg #[.string .empty,.slice none 0 0]) 40 underlying78 qe qd qn qo rfl (by decide) Fb KN r.a r.n r.c _ rfl ho.rows _ 1 1 [(⟨t1,none,0,0⟩:IQ)] rfl L4 (fun ad h=>(by cases h;rfl)) (fun h=>(by cases h)) (r.n+1) rfl (by unfold maxLen;omega) (by omega) (by have:=hw.size;omega) (fun a4 cap4 w4 R4 hj h8=>?_))
    have NV:=N1
    rw[Ev] at NV
    have NP:=N2
    rw[Eq] at NP
    have ht:=ho.rows.rowTy (m:=r.n) (k:=r.c)
    have E5:=E4.ty hj ht (by decide)
    have V5:=V4.ty hj ht (by decide)
    have D5:=D4.ty hj ht (by decide)
    have F5:=F4.ty hj ht (by decide)
    have hI:=PB.ty hj ht (by decide)
    have h4:=RB.ty hj ht (by decide)
    have AL5:Al2 (VoR w4 B) l' m':=AL4.imp fun q hq _ h=>h.offI hj ht (fun ad e=>F3 (DI NV (o7_ hq e)))
    have h7:Al2 (ItR w4 B) (r.irs++[(⟨t1,none,0,0⟩:IQ)]) (u0.its++[⟨t1,[]⟩]):=(ho.its.imp fun _ _ _ h=>h.ty hj ht (by decide)).snoc ⟨rfl,aB_⟩
    have hM:Below B w w4:=hw.grown hj (by have:=hw.size;omega) (Cg fun ad e=>(ho.rows.block ad e).1)
    obtain⟨vb',evb,_,c5⟩:=FQ V5 hr
    obtain rfl:vb=vb':=by cases evb;rfl
    have fz:w4.frozen? ⟨vb,k*4+3,none⟩=false:=by
     rcases V5.own with⟨h0,_⟩ | ⟨b,ha,_,_,_,c,hc,_⟩
     ·cases h0
     ·cases ha;exact hc.frozen _
    have hD:(l'++[r]).set k (⟨r.id,r.nm,r.fx,a4,r.n+1,cap4,r.irs++[⟨t1,none,0,0⟩]⟩:VQ)=l'++[(⟨r.id,r.nm,r.fx,a4,r.n+1,cap4,r.irs++[⟨t1,none,0,0⟩]⟩:VQ)]:=by rw[<-hH];exact Ip _ _ _
    have V6:=V5.set1 Fk (x':=(⟨r.id,r.nm,r.fx,a4,r.n+1,cap4,r.irs++[⟨t1,none,0,0⟩]⟩:VQ)) (v:=.slice a4 (r.n+1) cap4) hr (show 3<4 by omega) rfl
    rw[hD] at V6
    have hn:w4.grownBy (w4.setCell ⟨vb,k*4+3,none⟩ (.slice a4 (r.n+1) cap4)) (some vb):=af_ (Yh _ _) _ _
    have hs:BF w4 (some vb) tV:=V5.rowTy (m:=k+1) (k:=vc)
    have E6:=E5.ty hn hs (by decide)
    have D6:=D5.ty hn hs (by decide)
    have F6:=F5.ty hn hs (by decide)
    have h3:=hI.ty hn hs (by decide)
    have hp:=h4.ty hn hs (by decide)
    have R6:=R4.ty hn hs (by decide)
    have AL6:Al2 (VoR (w4.setCell ⟨vb,k*4+3,none⟩ (.slice a4 (r.n+1) cap4)) B) (l'++[(⟨r.id,r.nm,r.fx,a4,r.n+1,cap4,r.irs++[⟨t1,none,0,0⟩]⟩:VQ)]) (m'++[{u0 with its:=u0.its++[⟨t1,[]⟩]}]):=(AL5.imp fun _ _ _ h=>h.ty hn hs (by decide) (by decide)).snoc ⟨ho.id,ho.nm,ho.fx,R6,h7.imp fun _ _ _ h=>h.ty hn hs (by decide)⟩
    have NA:(Eu (l'++[(⟨r.id,r.nm,r.fx,a4,r.n+1,cap4,r.irs++[⟨t1,none,0,0⟩]⟩:VQ)])).Nodup:=by
     rw[Ev]
     refine EE NV (HE AL4) (fun b e=>?_)
     cases ha:a4 with
     |none=>rw[ha] at e;cases e
     |some ad=>
      rw[ha] at e
      obtain rfl:=Zi e
      rcases h8 ad ha with⟨ad0,e0,q0⟩ | q0
      ·exact .inl (by rw[e0];exact congrArg some q0)
      ·exact .inr q0
    have NB:(DS (l'++[(⟨r.id,r.nm,r.fx,a4,r.n+1,cap4,r.irs++[⟨t1,none,0,0⟩]⟩:VQ)])).Nodup:=by
     rw[Eq]
     show (DS l'++(r.irs++[(⟨t1,none,0,0⟩:IQ)]).filterMap fun x=>CF x.a).Nodup
     rw[EY]
     simpa [CF] using NP
    have h6:Below B w (w4.setCell ⟨vb,k*4+3,none⟩ (.slice a4 (r.n+1) cap4)):=hM.grown hn (by have:=hM.size;omega) (fun j e=>by cases e;exact qb)
    have M6:AE B (w4.setCell ⟨vb,k*4+3,none⟩ (.slice a4 (r.n+1) cap4)) (.agg #[.int .i64 p.size,.int .i64 p.next,.slice ea en ec,.slice (some ⟨vb,0,none⟩) (k+1) vc,.slice ra rn rc,.slice la ln lc]) {p with vs:=m'++[{u0 with its:=u0.its++[⟨t1,[]⟩]}]}:=⟨ea,en,ec,_,k+1,vc,ra,rn,rc,la,ln,lc,_,rfl,E6,V6,D6,F6,hQ,AL6,NA,NB⟩
    clear ht hj h8 hn hs E5 V5 D5 F5 E6 D6 F6 AL5 AL6 NA NB h7 R4 R6 V4 D4 F4 AL4 E4 L4 PB RB hw ho NV NP V6 hD evb
    obtain⟨W6,hO⟩:∃ W6,Hid (w4.setCell ⟨vb,k*4+3,none⟩ (.slice a4 (r.n+1) cap4)=W6):=⟨_,rfl⟩
    rw[hO.out] at h3 hp M6 h6
    refine hK.out _ _ ⟨hI.cell 3,c5⟩ (fun hHeld=>?_)
    clear hK K
    try simp only[Act.put,Yj,Yq,Yr]
    clear hI h4 hM
    refine tk 14 ?_
    refine tk 15 ?_
    refine wpAnyH_done (by kernel_rfl) ?_ _
    refine lastL rfl ?_
    go_upto_region 28 with fail
    rw[hO.out]
    clear c5 fz hO
    obtain⟨v0,v1,v2,v3,v4,v5⟩:=h3.sixM
    obtain⟨r0,r1,r2,r3,r4,r5⟩:=hp.sixM
    have g0:=hp.frozen 0
    have g1:=hp.frozen 1
    have g2:=hp.frozen 2
    have g3:=hp.frozen 3
    have g4:=hp.frozen 4
    have g5:=hp.frozen 5
    go_wp2
    obtain⟨E8,M8,hN⟩:=AA hp h6 (by omega) (M6)
    change bodyPost _ _ _ _ _ (AV W6 (w.heap.size+1) (.int .i64 p.size) (.int .i64 p.next) (.slice ea en ec) (.slice (some ⟨vb,0,none⟩) (k+1) vc) (.slice ra rn rc) (.slice la ln lc))
    generalize AV W6 (w.heap.size+1) (.int .i64 p.size) (.int .i64 p.next) (.slice ea en ec) (.slice (some ⟨vb,0,none⟩) (k+1) vc) (.slice ra rn rc) (.slice la ln lc)=W8 at *
    refine YW (results_cell_row rfl _ W8 (w.heap.size+1) _ _ _ _ rfl E8 underlying28 rfl (by kernel_rfl)) rfl ?_
    exact⟨⟨_,rfl,by rw[hP.out];exact M8⟩,hN⟩
  by_cases hkpartK:k0=partK
  ·skip
   rw[hkpartK] at he
   exact absurd he (by decide)
  by_cases hkrefK:k0=B7
  ·skip
   rw[hkrefK] at he
   exact absurd he (by decide)
  by_cases hklateK:k0=Bj
  ·skip
   rw[hklateK] at he
   exact absurd he (by decide)
  rw[Ft,if_neg hb,if_neg hkexK,if_neg hkvolK,if_neg hkfileK,if_neg hkpartK,if_neg hkrefK,if_neg hklateK] at he
  exact absurd he (by decide)
end Go.Proofs.YtkiceokhlceciaaGreatDoor
