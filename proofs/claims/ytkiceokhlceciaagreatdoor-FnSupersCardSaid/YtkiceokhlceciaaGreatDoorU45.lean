/- Texts of pools, read and written; what is drawn. -/
import Derived.Test.YtkiceokhlceciaaGreatDoorU44
set_option maxHeartbeats 20000000
set_option maxRecDepth 100000
namespace Go.Proofs.YtkiceokhlceciaaGreatDoor
open Go Go.RowKit Go.BigFrame Tryz
theorem Hy (B K:Nat)(v:Value)(p:Po)(line:ByteArray)(w:World)(h:AE B w v p)(hB:B<=w.heap.size)(hK:K<=60000)(hd:Fm K p)(hl:line.size<=60000)(hf:Ft (AY (Cm line.data.toList) 0)=2) :
  Calls prog 60 #[v,.string line] w fun e w'=>(∃ v',e=.returned v'∧AE B w' v' (AM p line.data.toList))∧Below B w w':=by
 obtain⟨ea,en,ec,va,vn,vc,ra,rn,rc,la,ln,lc,vr,rfl,E1,V1,C1,C2,hQ,AL,N1,N2⟩:=h.out
 clear h
 obtain⟨ws,hN⟩:∃ ws,Hid (Cm line.data.toList=ws):=⟨_,rfl⟩
 have kW:=fun (u:World)=>CW line u (by omega)
 rw[hN.out] at kW
 have qb:Hid (ws≠[]):=by show _≠_;rw[<-hN.out];exact Fl _ _
 have hH:∀ x∈ws.map bA,x.size<=100000:=by
  intro x hx
  obtain⟨y,hy,rfl⟩:=ZT.1 hx
  rw[<-hN.out] at hy
  have:=C0 y hy
  rw[Lib.size_eq,Af]
  have h2:=Lib.size_eq line
  omega
 have qd:=Blk.new w #[.int .i64 p.size,.int .i64 p.next,.slice ea en ec,.slice va vn vc,.slice ra rn rc,.slice la ln lc] 28
 have qg:Below w.heap.size w ((w.alloc (.cells #[.int .i64 p.size,.int .i64 p.next,.slice ea en ec,.slice va vn vc,.slice ra rn rc,.slice la ln lc] 28)).alloc (.cells #[.int .i64 0,.int .i64 0,.slice none 0 0,.slice none 0 0,.slice none 0 0,.slice none 0 0] 28)):=by go_grown
 have PB:Blk ((w.alloc (.cells #[.int .i64 p.size,.int .i64 p.next,.slice ea en ec,.slice va vn vc,.slice ra rn rc,.slice la ln lc] 28)).alloc (.cells #[.int .i64 0,.int .i64 0,.slice none 0 0,.slice none 0 0,.slice none 0 0,.slice none 0 0] 28)) w.heap.size #[.int .i64 p.size,.int .i64 p.next,.slice ea en ec,.slice va vn vc,.slice ra rn rc,.slice la ln lc] 28:=qd.below ((Yg _ _).alloc (Zd _) _)
 have RB:Blk ((w.alloc (.cells #[.int .i64 p.size,.int .i64 p.next,.slice ea en ec,.slice va vn vc,.slice ra rn rc,.slice la ln lc] 28)).alloc (.cells #[.int .i64 0,.int .i64 0,.slice none 0 0,.slice none 0 0,.slice none 0 0,.slice none 0 0] 28)) (w.heap.size+1) #[.int .i64 0,.int .i64 0,.slice none 0 0,.slice none 0 0,.slice none 0 0,.slice none 0 0] 28:=Blk.new' _ _ _ _ (by simp)
 clear qd
 go_enter func60,ntmps60
 go_wp2_with fail
 generalize (w.alloc (.cells #[.int .i64 p.size,.int .i64 p.next,.slice ea en ec,.slice va vn vc,.slice ra rn rc,.slice la ln lc] 28)).alloc (.cells #[.int .i64 0,.int .i64 0,.slice none 0 0,.slice none 0 0,.slice none 0 0,.slice none 0 0] 28)=W0 at *
 refine (kW W0).mono ?_
 rintro e w1 ⟨⟨wa,wn,wq,rfl,qI,R1⟩,hh⟩
 have qp:Hid (w.heap.size+1<W0.heap.size):=RB.lt
 replace PB:=PB.below hh
 replace RB:=RB.below hh
 replace hh:=Aa qg hh
 clear qg kW
 replace E1:=E1.below hh
 replace V1:=V1.below hh
 replace C1:=C1.below hh
 replace C2:=C2.below hh
 replace AL:Al2 (VoR w1 B) vr p.vs:=AL.imp fun _ _ _ h=>h.below hh
 have hI:Hid (vr.length=vn):=V1.sl.len
 have qH:vn<=60000:=by rw[<-hI.out,AL.len];exact Zl hd.vs hK
 obtain⟨b0,b1,b2,b3,b4,b5⟩:=PB.sixM
 go_upto_if 22 with fail
 obtain⟨xv,hS⟩:∃ xv,Hid (Dn vr=xv):=⟨_,rfl⟩
 go_cut [7] (fun x wc=>x=.int .i64 xv∧wc=w1)
 case first=>
  rcases Nat.eq_zero_or_pos vn with h0 | h0
  ·subst h0
   have hx:xv=-1:=by rw[<-hS.out,Dn,Zt hI.out];rfl
   go_wp2
   go_meet
   exact⟨by rw[hx],rfl⟩
  ·obtain⟨k,rfl⟩:∃ k,vn=k+1:=⟨vn-1,by omega⟩
   obtain⟨l',r,rfl,hZ⟩:=Cs hI.out
   have hr:(l'++[r])[k]?=some r:=by rw[<-hZ];simp
   obtain⟨vb,rfl,qz,c3⟩:=FQ V1 hr
   have hx:Hid (xv=(r.n:Int)-1):=by show _=_;rw[<-hS.out,Dn];simp
   have qv:r.n<=60000:=by
    obtain⟨m',y,hm,_,hv⟩:=AL.lastL
    have h1:=(hd.its y (by rw[hm];simp)).1
    rw[<-hv.its.len,hv.rows.sl.len] at h1
    omega
   have qE:((k+1:Nat):Int)-1=k:=by omega
   go_wp2
   go_meet
   exact⟨by rw[hx.out],rfl⟩
 case rest=>
  obtain⟨rfl,rfl⟩:=hcut
  have kN:=fun (i:Nat) (x:World) (hx:Below wc.heap.size wc x)=>Bm wa wn wq (ws.map bA) i x (R1.sl.below hx) hH
  have kW:=fun (i:Nat) (x:World) (hx:Below wc.heap.size wc x)=>BR wa wn wq (ws.map bA) i x (R1.sl.below hx)
  have k1:=kN 1
  have k2:=kN 2
  have k3:=kW 3
  have k4:=kW 4
  simp only[Dc] at k1 k2
  simp only[Dd] at k3 k4
  obtain⟨n1,h3⟩:∃ z,Hid (Di ws 1=z):=⟨_,rfl⟩
  obtain⟨n2,h4⟩:∃ z,Hid (Di ws 2=z):=⟨_,rfl⟩
  obtain⟨t3,qw⟩:∃ z,Hid (bA (AY ws 3)=z):=⟨_,rfl⟩
  obtain⟨t4,h9⟩:∃ z,Hid (bA (AY ws 4)=z):=⟨_,rfl⟩
  rw[h3.out] at k1
  rw[h4.out] at k2
  rw[qw.out] at k3
  rw[h9.out] at k4
  have qx:t4.size<=100000:=by
   rw[<-h9.out]
   have:=Dd ws 4
   rw[<-this]
   unfold GB
   cases hc:(ws.map bA)[4]? with
   |none=>show (0:Nat)<=_;omega
   |some x=>exact hH x (Zc hc)
  obtain⟨n4,qu⟩:∃ z,Hid ((numP (AY ws 4)).getD 0=z):=⟨_,rfl⟩
  have qr:Hid (Dz (numP t4.data.toList)=.tuple #[.int .i64 n4,.bool (numP t4.data.toList).isSome]):=by
   show _=_
   rw[<-qu.out,<-h9.out,Af]
   cases numP (AY ws 4)<;>rfl
  obtain⟨k0,wr,hL⟩:∃ k0 r,ws=k0::r:=by
   cases hc:ws with
   |nil=>exact absurd hc qb.out
   |cons a r=>exact⟨a,r,rfl⟩
  obtain⟨wb,wo,sx,rfl,h7,cw⟩:=FE R1.sl (k:=0) (by rw[<-R1.sl.len,hL];simp)
  have h8:Hid (sx=bA k0):=by show _=_;rw[hL] at h7;exact (Zi h7).symm
  clear kN kW h7
  go_wp2_with fail
  refine (k1 _ (Yg _ _)).mono ?_
  rintro e u ⟨rfl,hu⟩
  subst hu
  go_wp2_with fail
  refine (k2 _ (Yg _ _)).mono ?_
  rintro e u ⟨rfl,hu⟩
  subst hu
  go_wp2_with fail
  refine (k3 _ (Yg _ _)).mono ?_
  rintro e u ⟨rfl,hu⟩
  subst hu
  go_wp2_with fail
  have hV:Below u.heap.size u (u.alloc (.cells #[.int .i64 n1,.int .i64 n2,.string t3,.int .i64 0] 68)):=by go_grown
  have CB:=Blk.new u #[.int .i64 n1,.int .i64 n2,.string t3,.int .i64 0] 68
  generalize u.alloc (.cells #[.int .i64 n1,.int .i64 n2,.string t3,.int .i64 0] 68)=W2 at *
  refine (k4 _ hV).mono ?_
  rintro e x ⟨rfl,hu⟩
  obtain rfl:W2=x:=hu.symm
  go_wp2_with fail
  refine (Cv t4 _ (by omega)).mono ?_
  rintro e x' ⟨rfl,hu⟩
  obtain rfl:W2=x':=hu.symm
  rw[qr.out]
  have y3:=CB.cell 3
  have f3:=CB.frozen 3
  go_upto_region 8 with fail
  have qj:W2.grownBy (W2.setCell ⟨u.heap.size,3,none⟩ (.int .i64 n4)) (some u.heap.size):=af_ (Yh _ _) _ _
  have hT:Blk (W2.setCell ⟨u.heap.size,3,none⟩ (.int .i64 n4)) u.heap.size #[.int .i64 n1,.int .i64 n2,.string t3,.int .i64 n4] 68:=by simpa using CB.set 3 (.int .i64 n4)
  have hn:=ao_ hV qj (Zd _)
  generalize W2.setCell ⟨u.heap.size,3,none⟩ (.int .i64 n4)=W3 at *
  clear qj CB y3 f3 hV W2 b0 b1 b2 b3 b4 b5
  replace PB:=PB.below hn
  replace RB:=RB.below hn
  replace E1:=E1.below hn
  replace V1:=V1.below hn
  replace C1:=C1.below hn
  replace C2:=C2.below hn
  replace R1:=R1.below hn
  replace AL:Al2 (VoR W3 B) vr p.vs:=AL.imp fun _ _ _ h=>h.below hn
  replace cw:=Ab hn cw
  rw[Nat.add_zero] at cw
  have qJ:0<wn:=by rw[<-R1.sl.len,hL];simp
  replace hh:=Aa hh hn
  clear hn
  have M3:AE B W3 (.agg #[.int .i64 p.size,.int .i64 p.next,.slice ea en ec,.slice va vn vc,.slice ra rn rc,.slice la ln lc]) p:=⟨ea,en,ec,va,vn,vc,ra,rn,rc,la,ln,lc,vr,rfl,E1,V1,C1,C2,hQ,AL,N1,N2⟩
  have hO:Below B w W3:=hh.mono hB
  have hF:Hid (AM p line.data.toList=BG p k0 ws line.data.toList):=by
   show _=_
   unfold AM
   rw[hN.out,hL]
   rfl
  replace hf:Ft k0=2:=by rw[hN.out,hL] at hf;exact hf
  have hA:sx.toList=k0:=by rw[h8.out,Zu,Af]
  by_cases hk:k0=BA
  ·rw[hk] at hf
   exact absurd hf (by decide)
  have he:¬ k0=BA:=hk
  by_cases hkexK:k0=exK
  ·skip
   rw[hkexK] at hf
   exact absurd hf (by decide)
  by_cases hkvolK:k0=Cl
  ·skip
   rw[hkvolK] at hf
   exact absurd hf (by decide)
  by_cases hkfileK:k0=Bz
  ·skip
   rw[hkfileK] at hf
   exact absurd hf (by decide)
  by_cases hkpartK:k0=partK
  ·skip
   have epoolK:¬ sx.toList=[112,111,111,108]:=fun e=>he (by rw[<-hA,e];rfl)
   have eexK:¬ sx.toList=[101,120,116,101,110,116]:=fun e=>hkexK (by rw[<-hA,e];rfl)
   have evolK:¬ sx.toList=[118,111,108,117,109,101]:=fun e=>hkvolK (by rw[<-hA,e];rfl)
   have efileK:¬ sx.toList=[102,105,108,101]:=fun e=>hkfileK (by rw[<-hA,e];rfl)
   have epartK:sx.toList=[112,97,114,116]:=by rw[hA,hkpartK];rfl
   rcases Nat.eq_zero_or_pos vn with h0 | h0
   ·subst h0
    have hD:p.vs=[]:=Zt (by rw[<-AL.len,hI.out])
    obtain rfl:xv=-1:=by rw[<-hS.out,Dn,Zt hI.out];rfl
    have hP:Hid (AM p line.data.toList=p):=by
     show _=_
     rw[hF.out]
     unfold BG
     rw[if_neg he,if_neg hkexK,if_neg hkvolK,if_neg hkfileK,if_pos hkpartK]
     rw[hD];show ({p with vs:=[]}:Po)=p;rw[<-hD]
    clear hA hF hD
    go_upto_region 28 with fail
    clear E1 V1 C1 C2 AL hT R1 cw k1 k2 k3 k4 hH hQ N1 N2
    obtain⟨v0,v1,v2,v3,v4,v5⟩:=PB.sixM
    obtain⟨r0,r1,r2,r3,r4,r5⟩:=RB.sixM
    have g0:=RB.frozen 0
    have g1:=RB.frozen 1
    have g2:=RB.frozen 2
    have g3:=RB.frozen 3
    have g4:=RB.frozen 4
    have g5:=RB.frozen 5
    go_wp2
    obtain⟨E8,M8,hJ⟩:=AA RB hO (by omega) (M3)
    change bodyPost _ _ _ _ _ (AV W3 (w.heap.size+1) (.int .i64 p.size) (.int .i64 p.next) (.slice ea en ec) (.slice va 0 vc) (.slice ra rn rc) (.slice la ln lc))
    generalize AV W3 (w.heap.size+1) (.int .i64 p.size) (.int .i64 p.next) (.slice ea en ec) (.slice va 0 vc) (.slice ra rn rc) (.slice la ln lc)=W8 at *
    refine YW (results_cell_row rfl _ W8 (w.heap.size+1) _ _ _ _ rfl E8 underlying28 rfl (by kernel_rfl)) rfl ?_
    exact⟨⟨_,rfl,by rw[hP.out];exact M8⟩,hJ⟩
   ·obtain⟨k,rfl⟩:∃ k,vn=k+1:=⟨vn-1,by omega⟩
    obtain⟨l',⟨vid,vnm,vfx,ia,inn,ic,irs⟩,rfl,hZ⟩:=Cs hI.out
    have hR:Hid (xv=(inn:Int)-1):=by show _=_;rw[<-hS.out,Dn];simp
    have hr:(l'++[⟨vid,vnm,vfx,ia,inn,ic,irs⟩])[k]?=some ⟨vid,vnm,vfx,ia,inn,ic,irs⟩:=by rw[<-hZ];simp
    obtain⟨m',u0,hm,AL',hv⟩:=AL.lastL
    obtain⟨vb,rfl,qz,c3⟩:=FQ V1 hr
    dsimp only at c3
    have qt:irs.length=inn:=hv.rows.sl.len
    have qy:=hv.its.len
    dsimp only at qy
    have qv:inn<=60000:=by
     have h1:=(hd.its u0 (by rw[hm];simp)).1
     omega
    rcases Nat.eq_zero_or_pos inn with h1 | h1
    ·subst h1
     have hD:u0.its=[]:=Zt (by omega)
     obtain rfl:xv=-1:=by rw[hR.out];rfl
     have hP:Hid (AM p line.data.toList=p):=by
      show _=_
      rw[hF.out]
      unfold BG
      rw[if_neg he,if_neg hkexK,if_neg hkvolK,if_neg hkfileK,if_pos hkpartK]
      rw[hm,Cu];show ({p with vs:=m'++[{u0 with its:=Eo _ u0.its}]}:Po)=p;rw[hD];show ({p with vs:=m'++[{u0 with its:=[]}]}:Po)=p;rw[<-hD,<-hm]
     clear hA hF hD
     go_upto_region 28 with fail
     clear E1 V1 C1 C2 AL hT R1 cw k1 k2 k3 k4 hH hQ N1 N2
     obtain⟨v0,v1,v2,v3,v4,v5⟩:=PB.sixM
     obtain⟨r0,r1,r2,r3,r4,r5⟩:=RB.sixM
     have g0:=RB.frozen 0
     have g1:=RB.frozen 1
     have g2:=RB.frozen 2
     have g3:=RB.frozen 3
     have g4:=RB.frozen 4
     have g5:=RB.frozen 5
     go_wp2
     obtain⟨E8,M8,hJ⟩:=AA RB hO (by omega) (M3)
     change bodyPost _ _ _ _ _ (AV W3 (w.heap.size+1) (.int .i64 p.size) (.int .i64 p.next) (.slice ea en ec) (.slice (some ⟨vb,0,none⟩) (k+1) vc) (.slice ra rn rc) (.slice la ln lc))
     generalize AV W3 (w.heap.size+1) (.int .i64 p.size) (.int .i64 p.next) (.slice ea en ec) (.slice (some ⟨vb,0,none⟩) (k+1) vc) (.slice ra rn rc) (.slice la ln lc)=W8 at *
     refine YW (results_cell_row rfl _ W8 (w.heap.size+1) _ _ _ _ rfl E8 underlying28 rfl (by kernel_rfl)) rfl ?_
     exact⟨⟨_,rfl,by rw[hP.out];exact M8⟩,hJ⟩
    obtain⟨x,rfl⟩:∃ x,inn=x+1:=⟨inn-1,by omega⟩
    obtain⟨i',⟨qn,qa,qm,qc⟩,rfl,ql⟩:=Cs qt
    have h5:(i'++[⟨qn,qa,qm,qc⟩])[x]?=some ⟨qn,qa,qm,qc⟩:=by rw[<-ql];simp
    obtain⟨j',y1,hj,IL',hq⟩:=hv.its.lastL
    obtain⟨ib,qk,qs,c4⟩:=Mf hv.rows h5
    dsimp only at qk c4
    subst qk
    obtain rfl:xv=(x:Int):=by rw[hR.out];omega
    clear hR
    have qG:qm<=60000:=by
     have h1:=(hd.its u0 (by rw[hm];simp)).2 y1 (by rw[hj];simp)
     rw[hq.ps.sl.len] at h1
     dsimp only at h1
     omega
    obtain⟨n3,qo⟩:∃ z,Hid (Di ws 3=z):=⟨_,rfl⟩
    have hP:Hid (AM p line.data.toList={p with vs:=m'++[{u0 with its:=j'++[{y1 with ps:=y1.ps++[(⟨n1,n2,n3⟩:Pt)]}]}]}):=by
     show _=_
     rw[hF.out]
     unfold BG
     rw[if_neg he,if_neg hkexK,if_neg hkvolK,if_neg hkfileK,if_pos hkpartK]
     rw[hm,Cu];show ({p with vs:=m'++[{u0 with its:=Eo _ u0.its}]}:Po)=_;rw[hj,Cu,h3.out,h4.out,qo.out]
    clear hA hF
    have qK:(x:Int)<x+1:=by omega
    have hR:(0:Int)<=x:=by omega
    go_upto_region 23 with fail
    rw[show ((k+1:Nat):Int)-1=(k:Int) by omega]
    have hY:Below W3.heap.size W3 W3.drew:=(Yg _ _).drew
    replace PB:=PB.below hY
    replace RB:=RB.below hY
    replace R1:=R1.below hY
    replace c3:=Ab hY c3
    replace c4:=Ab hY c4
    have E4:=E1.below hY
    have V4:=V1.below hY
    have D4:=C1.below hY
    have F4:=C2.below hY
    have AL4:Al2 (VoR W3.drew B) l' m':=AL'.imp fun _ _ _ h=>h.below hY
    have IL4:Al2 (ItR W3.drew B) i' j':=IL'.imp fun _ _ _ h=>h.below hY
    have hG:=hv.below hY
    have hE:=hq.below hY
    have hC:Below B w W3.drew:=hO.drew
    obtain⟨i0,qq,qp,qB,qC⟩:=info_parts Mb
    have qF:(k:Int)<k+1:=by omega
    have qD:(fun u=>u.cell? ⟨w.heap.size,3,none⟩=some (.slice (some ⟨vb,0,none⟩) (k+1) vc)∧u.cell? ⟨vb,k*4+3,none⟩=some (.slice (some ⟨ib,0,none⟩) (x+1) ic)∧u.cell? ⟨ib,x*2+1,none⟩=some (.slice qa qm qc)) W3.drew:=⟨PB.cell 3,c3,c4⟩
    refine ar_ (S:=(fun u=>u.cell? ⟨w.heap.size,3,none⟩=some (.slice (some ⟨vb,0,none⟩) (k+1) vc)∧u.cell? ⟨vb,k*4+3,none⟩=some (.slice (some ⟨ib,0,none⟩) (x+1) ic)∧u.cell? ⟨ib,x*2+1,none⟩=some (.slice qa qm qc))) 28 (by kernel_rfl) (by kernel_rfl) ?_
    generalize W3.drew=y0 at *
    clear hY E1 V1 C1 C2 AL AL' IL' M3 hO hT cw hv hq
    refine tk 0 ?_
    refine tk 1 ?_
    refine tk 2 ?_
    refine tk 3 ?_
    refine tk 4 ?_
    refine tk 5 ?_
    refine tk 6 ?_
    refine tk 7 ?_
    refine tk 8 ?_
    refine tk 9 ?_
    refine tk 10 ?_
    refine tk 11 ?_
    refine tk 12 ?_
    refine tk 13 ?_
    refine tk 14 ?_
    refine tk 15 ?_
    refine tk 16 ?_
    refine tk 17 ?_
    refine tk 19 ?_
    refine tk 21 ?_
    have k1:=Bm _ wn wq (ws.map bA) 1 y0 R1.sl hH
    rw[Dc,h3.out] at k1
    refine Aq (i:=18) (by kernel_rfl) rfl (fun K hK=>?_)
    go_simp
    refine k1.mono ?_
    rintro e z ⟨rfl,hz⟩
    obtain rfl:y0=z:=hz.symm
    dsimp only
    refine hK.out _ _ ⟨PB.cell 3,c3,c4⟩ (fun hHeld=>?_)
    clear hK K
    try simp only[Act.put,Yj,Yq,Yr]
    have k2:=Bm _ wn wq (ws.map bA) 2 y0 R1.sl hH
    rw[Dc,h4.out] at k2
    refine Aq (i:=20) (by kernel_rfl) rfl (fun K hK=>?_)
    go_simp
    refine k2.mono ?_
    rintro e z ⟨rfl,hz⟩
    obtain rfl:y0=z:=hz.symm
    dsimp only
    refine hK.out _ _ ⟨PB.cell 3,c3,c4⟩ (fun hHeld=>?_)
    clear hK K
    try simp only[Act.put,Yj,Yq,Yr]
    have k3:=Bm _ wn wq (ws.map bA) 3 y0 R1.sl hH
    rw[Dc,qo.out] at k3
    refine Aq (i:=22) (by kernel_rfl) rfl (fun K hK=>?_)
    go_simp
    refine k3.mono ?_
    rintro e z ⟨rfl,hz⟩
    obtain rfl:y0=z:=hz.symm
    dsimp only
    refine hK.out _ _ ⟨PB.cell 3,c3,c4⟩ (fun hHeld=>?_)
    clear hK K
    try simp only[Act.put,Yj,Yq,Yr]
    refine tk 23 ?_
    refine Aq (i:=24) (by kernel_rfl) rfl (fun K hK=>?_)
    go_simp
    have hg:Below y0.heap.size y0 (y0.alloc (.cells (Pt.cs (⟨n1,n2,n3⟩:Pt)).toArray tP)):=(Yg _ _).alloc (Zd _) _
    have L4:=Ci F7 y0 (⟨n1,n2,n3⟩:Pt) tP _ rfl
    replace PB:=PB.below hg
    replace RB:=RB.below hg
    replace c3:=Ab hg c3
    replace c4:=Ab hg c4
    replace E4:=E4.below hg
    replace V4:=V4.below hg
    replace D4:=D4.below hg
    replace F4:=F4.below hg
    replace AL4:Al2 (VoR (y0.alloc (.cells (Pt.cs (⟨n1,n2,n3⟩:Pt)).toArray tP)) B) l' m':=AL4.imp fun _ _ _ h=>h.below hg
    replace IL4:Al2 (ItR (y0.alloc (.cells (Pt.cs (⟨n1,n2,n3⟩:Pt)).toArray tP)) B) i' j':=IL4.imp fun _ _ _ h=>h.below hg
    replace hG:=hG.below hg
    replace hE:=hE.below hg
    have qA:=hC.size
    replace hC:=hC.alloc (Zl hB qA) (.cells (Pt.cs (⟨n1,n2,n3⟩:Pt)).toArray tP)
    change K _ (y0.alloc (.cells (Pt.cs (⟨n1,n2,n3⟩:Pt)).toArray tP))
    generalize y0.alloc (.cells (Pt.cs (⟨n1,n2,n3⟩:Pt)).toArray tP)=y2 at *
    clear hg
    refine hK.out _ _ ⟨PB.cell 3,c3,c4⟩ (fun hHeld=>?_)
    clear hK K
    try simp only[Act.put,Yj,Yq,Yr]
    refine Aq (i:=25) (by kernel_rfl) rfl (fun K hK=>?_)
    refine aJ_ rfl (mX_ _ _ 120 rfl B tP i0 (.agg #[.int .i64 0,.int .i64 0,.int .i64 0]) 24 underlying120 qq qp qB qC rfl (by decide) F7 cI_ qa qm qc _ rfl hE.ps _ 1 1 [(⟨n1,n2,n3⟩:Pt)] rfl L4 (fun ad h=>(by cases h;rfl)) (fun h=>(by cases h)) (qm+1) rfl (by unfold maxLen;omega) (by omega) (by have:=hC.size;omega) (fun a4 cap4 w4 R4 ho qi=>?_))
    have NV:=N1
    rw[Ev] at NV
    have NP:=N2
    rw[Eq] at NP
    dsimp only at NP NV
    rw[EY,<-ZC] at NP
    dsimp only at NP
    have hw:BF y2 (Value.ownBlock (.slice qa qm qc)) tP:=hE.ps.rowTy (m:=qm) (k:=qc)
    have E5:=E4.ty ho hw (by decide)
    have V5:=V4.ty ho hw (by decide)
    have D5:=D4.ty ho hw (by decide)
    have F5:=F4.ty ho hw (by decide)
    have hU:=PB.ty ho hw (by decide)
    have qf:=RB.ty ho hw (by decide)
    have I5:Ad IQ.cs 2 tI w4 B (some ⟨ib,0,none⟩) (x+1) ic (i'++[⟨qn,qa,qm,qc⟩]):=hG.rows.ty ho hw (by decide)
    have AL5:Al2 (VoR w4 B) l' m':=AL4.imp fun r' h6 _ h=>h.offP ho hw (fun z hz ad e=>F3 (DI NP (Yu _ (o8_ h6 hz e))))
    have IL5:Al2 (ItR w4 B) i' j':=IL4.imp fun z hz _ h=>⟨h.nm,h.ps.off ho (fun ad e=>F3 (DI NP (Ym _ (YQ.2 ⟨z,hz,by simp[CF,e]⟩))))⟩
    have hW:Below B w w4:=hC.grown ho (by have:=hC.size;omega) (Cg fun ad e=>(hE.ps.block ad e).1)
    obtain⟨vb',evb,_,c5⟩:=FQ V5 hr
    obtain rfl:vb=vb':=by cases evb;rfl
    dsimp only at c5
    obtain⟨ib',eib,_,c6⟩:=Mf I5 h5
    obtain rfl:ib=ib':=by cases eib;rfl
    dsimp only at c6
    have fz:w4.frozen? ⟨ib,x*2+1,none⟩=false:=by
     rcases I5.own with⟨h0,_⟩ | ⟨b,ha,_,_,_,c,hc,_⟩
     ·cases h0
     ·cases ha;exact hc.frozen _
    have hM:(i'++[(⟨qn,qa,qm,qc⟩:IQ)]).set x (⟨qn,a4,qm+1,cap4⟩:IQ)=i'++[(⟨qn,a4,qm+1,cap4⟩:IQ)]:=by rw[<-ql];exact Ip _ _ _
    have I6:=I5.set1 Fb (x':=(⟨qn,a4,qm+1,cap4⟩:IQ)) (v:=.slice a4 (qm+1) cap4) h5 (show 1<2 by omega) rfl
    rw[hM] at I6
    have hp:w4.grownBy (w4.setCell ⟨ib,x*2+1,none⟩ (.slice a4 (qm+1) cap4)) (some ib):=af_ (Yh _ _) _ _
    have hs:BF w4 (some ib) tI:=I5.rowTy (m:=x+1) (k:=ic)
    have E6:=E5.ty hp hs (by decide)
    have D6:=D5.ty hp hs (by decide)
    have F6:=F5.ty hp hs (by decide)
    have qe:=hU.ty hp hs (by decide)
    have ht:=qf.ty hp hs (by decide)
    have R6:=R4.ty hp hs (by decide)
    have V6:Ad VQ.cs 4 tV (w4.setCell ⟨ib,x*2+1,none⟩ (.slice a4 (qm+1) cap4)) B (some ⟨vb,0,none⟩) (k+1) vc (l'++[(⟨vid,vnm,vfx,some ⟨ib,0,none⟩,x+1,ic,i'++[⟨qn,a4,qm+1,cap4⟩]⟩:VQ)]):=Li (V5.ty hp hs (by decide)) rfl
    have IL6:Al2 (ItR (w4.setCell ⟨ib,x*2+1,none⟩ (.slice a4 (qm+1) cap4)) B) (i'++[(⟨qn,a4,qm+1,cap4⟩:IQ)]) (j'++[{y1 with ps:=y1.ps++[(⟨n1,n2,n3⟩:Pt)]}]):=(IL5.imp fun _ _ _ h=>h.ty hp hs (by decide)).snoc ⟨hE.nm,R6⟩
    have AL6:Al2 (VoR (w4.setCell ⟨ib,x*2+1,none⟩ (.slice a4 (qm+1) cap4)) B) (l'++[(⟨vid,vnm,vfx,some ⟨ib,0,none⟩,x+1,ic,i'++[⟨qn,a4,qm+1,cap4⟩]⟩:VQ)]) (m'++[{u0 with its:=j'++[{y1 with ps:=y1.ps++[(⟨n1,n2,n3⟩:Pt)]}]}]):=(AL5.imp fun r' h6 _ h=>h.offI hp hs (fun ad e=>F3 (a:=some ⟨ib,0,none⟩) (n:=0) (c:=0) (DI NV (o7_ h6 e)))).snoc ⟨hG.id,hG.nm,hG.fx,I6,IL6⟩
    have NA:(Eu (l'++[(⟨vid,vnm,vfx,some ⟨ib,0,none⟩,x+1,ic,i'++[⟨qn,a4,qm+1,cap4⟩]⟩:VQ)])).Nodup:=by
     rw[Ev];exact NV
    have NB:(DS (l'++[(⟨vid,vnm,vfx,some ⟨ib,0,none⟩,x+1,ic,i'++[⟨qn,a4,qm+1,cap4⟩]⟩:VQ)])).Nodup:=by
     rw[Eq]
     show (DS l'++(i'++[(⟨qn,a4,qm+1,cap4⟩:IQ)]).filterMap fun x=>CF x.a).Nodup
     rw[EY,<-ZC]
     refine EE NP (fun b hb=>(Zs.1 hb).elim (Hs AL4 b) (F0 IL4 b)) (fun b e=>?_)
     change CF a4=some b at e
     cases ha:a4 with
     |none=>rw[ha] at e;cases e
     |some ad=>
      rw[ha] at e
      obtain rfl:=Zi e
      rcases qi ad ha with⟨ad0,e0,q0⟩ | q0
      ·exact .inl (by rw[e0];exact congrArg some q0)
      ·exact .inr q0
    have qh:Below B w (w4.setCell ⟨ib,x*2+1,none⟩ (.slice a4 (qm+1) cap4)):=hW.grown hp (by have:=hW.size;omega) (fun j e=>by cases e;exact qs)
    have M6:AE B (w4.setCell ⟨ib,x*2+1,none⟩ (.slice a4 (qm+1) cap4)) (.agg #[.int .i64 p.size,.int .i64 p.next,.slice ea en ec,.slice (some ⟨vb,0,none⟩) (k+1) vc,.slice ra rn rc,.slice la ln lc]) {p with vs:=m'++[{u0 with its:=j'++[{y1 with ps:=y1.ps++[(⟨n1,n2,n3⟩:Pt)]}]}]}:=⟨ea,en,ec,_,k+1,vc,ra,rn,rc,la,ln,lc,_,rfl,E6,V6,D6,F6,hQ,AL6,NA,NB⟩
    clear hw ho qi hp hs E5 V5 D5 F5 E6 D6 F6 AL5 AL6 IL5 IL6 I5 I6 NA NB R4 R6 V4 D4 F4 AL4 IL4 E4 L4 PB RB hC hG hE NV NP V6 hM evb eib
    obtain⟨W6,hX⟩:∃ W6,Hid (w4.setCell ⟨ib,x*2+1,none⟩ (.slice a4 (qm+1) cap4)=W6):=⟨_,rfl⟩
    rw[hX.out] at qe ht M6 qh
    refine hK.out _ _ ⟨hU.cell 3,c5,c6⟩ (fun hHeld=>?_)
    clear hK K
    try simp only[Act.put,Yj,Yq,Yr]
    clear hU qf hW
    refine tk 26 ?_
    refine tk 27 ?_
    refine wpAnyH_done (by kernel_rfl) ?_ _
    refine lastL rfl ?_
    go_upto_region 28 with fail
    rw[hX.out]
    clear c5 c6 fz hX
    obtain⟨v0,v1,v2,v3,v4,v5⟩:=qe.sixM
    obtain⟨r0,r1,r2,r3,r4,r5⟩:=ht.sixM
    have g0:=ht.frozen 0
    have g1:=ht.frozen 1
    have g2:=ht.frozen 2
    have g3:=ht.frozen 3
    have g4:=ht.frozen 4
    have g5:=ht.frozen 5
    go_wp2
    obtain⟨E8,M8,hJ⟩:=AA ht qh (by omega) (M6)
    change bodyPost _ _ _ _ _ (AV W6 (w.heap.size+1) (.int .i64 p.size) (.int .i64 p.next) (.slice ea en ec) (.slice (some ⟨vb,0,none⟩) (k+1) vc) (.slice ra rn rc) (.slice la ln lc))
    generalize AV W6 (w.heap.size+1) (.int .i64 p.size) (.int .i64 p.next) (.slice ea en ec) (.slice (some ⟨vb,0,none⟩) (k+1) vc) (.slice ra rn rc) (.slice la ln lc)=W8 at *
    refine YW (results_cell_row rfl _ W8 (w.heap.size+1) _ _ _ _ rfl E8 underlying28 rfl (by kernel_rfl)) rfl ?_
    exact⟨⟨_,rfl,by rw[hP.out];exact M8⟩,hJ⟩
  by_cases hkrefK:k0=B7
  ·skip
   rw[hkrefK] at hf
   exact absurd hf (by decide)
  by_cases hklateK:k0=Bj
  ·skip
   rw[hklateK] at hf
   exact absurd hf (by decide)
  rw[Ft,if_neg he,if_neg hkexK,if_neg hkvolK,if_neg hkfileK,if_neg hkpartK,if_neg hkrefK,if_neg hklateK] at hf
  exact absurd hf (by decide)
theorem Hz (B K:Nat)(v:Value)(p:Po)(line:ByteArray)(w:World)(h:AE B w v p)(hB:B<=w.heap.size)(hK:K<=60000)(hd:Fm K p)(hl:line.size<=60000)(hg:Ft (AY (Cm line.data.toList) 0)=3) :
  Calls prog 60 #[v,.string line] w fun e w'=>(∃ v',e=.returned v'∧AE B w' v' (AM p line.data.toList))∧Below B w w':=by
 obtain⟨ea,en,ec,va,vn,vc,ra,rn,rc,la,ln,lc,vr,rfl,E1,V1,C1,C2,hw,AL,N1,N2⟩:=h.out
 clear h
 obtain⟨ws,hD⟩:∃ ws,Hid (Cm line.data.toList=ws):=⟨_,rfl⟩
 have kW:=fun (u:World)=>CW line u (by omega)
 rw[hD.out] at kW
 have hW:Hid (ws≠[]):=by show _≠_;rw[<-hD.out];exact Fl _ _
 have h6:∀ x∈ws.map bA,x.size<=100000:=by
  intro x hx
  obtain⟨y,hy,rfl⟩:=ZT.1 hx
  rw[<-hD.out] at hy
  have:=C0 y hy
  rw[Lib.size_eq,Af]
  have h2:=Lib.size_eq line
  omega
 have h3:=Blk.new w #[.int .i64 p.size,.int .i64 p.next,.slice ea en ec,.slice va vn vc,.slice ra rn rc,.slice la ln lc] 28
 have h4:Below w.heap.size w ((w.alloc (.cells #[.int .i64 p.size,.int .i64 p.next,.slice ea en ec,.slice va vn vc,.slice ra rn rc,.slice la ln lc] 28)).alloc (.cells #[.int .i64 0,.int .i64 0,.slice none 0 0,.slice none 0 0,.slice none 0 0,.slice none 0 0] 28)):=by go_grown
 have PB:Blk ((w.alloc (.cells #[.int .i64 p.size,.int .i64 p.next,.slice ea en ec,.slice va vn vc,.slice ra rn rc,.slice la ln lc] 28)).alloc (.cells #[.int .i64 0,.int .i64 0,.slice none 0 0,.slice none 0 0,.slice none 0 0,.slice none 0 0] 28)) w.heap.size #[.int .i64 p.size,.int .i64 p.next,.slice ea en ec,.slice va vn vc,.slice ra rn rc,.slice la ln lc] 28:=h3.below ((Yg _ _).alloc (Zd _) _)
 have RB:Blk ((w.alloc (.cells #[.int .i64 p.size,.int .i64 p.next,.slice ea en ec,.slice va vn vc,.slice ra rn rc,.slice la ln lc] 28)).alloc (.cells #[.int .i64 0,.int .i64 0,.slice none 0 0,.slice none 0 0,.slice none 0 0,.slice none 0 0] 28)) (w.heap.size+1) #[.int .i64 0,.int .i64 0,.slice none 0 0,.slice none 0 0,.slice none 0 0,.slice none 0 0] 28:=Blk.new' _ _ _ _ (by simp)
 clear h3
 go_enter func60,ntmps60
 go_wp2_with fail
 generalize (w.alloc (.cells #[.int .i64 p.size,.int .i64 p.next,.slice ea en ec,.slice va vn vc,.slice ra rn rc,.slice la ln lc] 28)).alloc (.cells #[.int .i64 0,.int .i64 0,.slice none 0 0,.slice none 0 0,.slice none 0 0,.slice none 0 0] 28)=W0 at *
 refine (kW W0).mono ?_
 rintro e w1 ⟨⟨wa,wn,wq,rfl,qg,R1⟩,hn⟩
 have hE:Hid (w.heap.size+1<W0.heap.size):=RB.lt
 replace PB:=PB.below hn
 replace RB:=RB.below hn
 replace hn:=Aa h4 hn
 clear h4 kW
 replace E1:=E1.below hn
 replace V1:=V1.below hn
 replace C1:=C1.below hn
 replace C2:=C2.below hn
 replace AL:Al2 (VoR w1 B) vr p.vs:=AL.imp fun _ _ _ h=>h.below hn
 have hV:Hid (vr.length=vn):=V1.sl.len
 have qf:vn<=60000:=by rw[<-hV.out,AL.len];exact Zl hd.vs hK
 obtain⟨b0,b1,b2,b3,b4,b5⟩:=PB.sixM
 go_upto_if 22 with fail
 obtain⟨xv,h7⟩:∃ xv,Hid (Dn vr=xv):=⟨_,rfl⟩
 go_cut [7] (fun x wc=>x=.int .i64 xv∧wc=w1)
 case first=>
  rcases Nat.eq_zero_or_pos vn with h0 | h0
  ·subst h0
   have hx:xv=-1:=by rw[<-h7.out,Dn,Zt hV.out];rfl
   go_wp2
   go_meet
   exact⟨by rw[hx],rfl⟩
  ·obtain⟨k,rfl⟩:∃ k,vn=k+1:=⟨vn-1,by omega⟩
   obtain⟨l',r,rfl,qa⟩:=Cs hV.out
   have hr:(l'++[r])[k]?=some r:=by rw[<-qa];simp
   obtain⟨vb,rfl,qe,c3⟩:=FQ V1 hr
   have hx:Hid (xv=(r.n:Int)-1):=by show _=_;rw[<-h7.out,Dn];simp
   have qd:r.n<=60000:=by
    obtain⟨m',y,hm,_,hv⟩:=AL.lastL
    have h1:=(hd.its y (by rw[hm];simp)).1
    rw[<-hv.its.len,hv.rows.sl.len] at h1
    omega
   have qc:((k+1:Nat):Int)-1=k:=by omega
   go_wp2
   go_meet
   exact⟨by rw[hx.out],rfl⟩
 case rest=>
  obtain⟨rfl,rfl⟩:=hcut
  have kN:=fun (i:Nat) (x:World) (hx:Below wc.heap.size wc x)=>Bm wa wn wq (ws.map bA) i x (R1.sl.below hx) h6
  have kW:=fun (i:Nat) (x:World) (hx:Below wc.heap.size wc x)=>BR wa wn wq (ws.map bA) i x (R1.sl.below hx)
  have k1:=kN 1
  have k2:=kN 2
  have k3:=kW 3
  have k4:=kW 4
  simp only[Dc] at k1 k2
  simp only[Dd] at k3 k4
  obtain⟨n1,hN⟩:∃ z,Hid (Di ws 1=z):=⟨_,rfl⟩
  obtain⟨n2,hO⟩:∃ z,Hid (Di ws 2=z):=⟨_,rfl⟩
  obtain⟨t3,hT⟩:∃ z,Hid (bA (AY ws 3)=z):=⟨_,rfl⟩
  obtain⟨t4,hU⟩:∃ z,Hid (bA (AY ws 4)=z):=⟨_,rfl⟩
  rw[hN.out] at k1
  rw[hO.out] at k2
  rw[hT.out] at k3
  rw[hU.out] at k4
  have qb:t4.size<=100000:=by
   rw[<-hU.out]
   have:=Dd ws 4
   rw[<-this]
   unfold GB
   cases hc:(ws.map bA)[4]? with
   |none=>show (0:Nat)<=_;omega
   |some x=>exact h6 x (Zc hc)
  obtain⟨n4,hQ⟩:∃ z,Hid ((numP (AY ws 4)).getD 0=z):=⟨_,rfl⟩
  have h9:Hid (Dz (numP t4.data.toList)=.tuple #[.int .i64 n4,.bool (numP t4.data.toList).isSome]):=by
   show _=_
   rw[<-hQ.out,<-hU.out,Af]
   cases numP (AY ws 4)<;>rfl
  obtain⟨k0,wr,hC⟩:∃ k0 r,ws=k0::r:=by
   cases hc:ws with
   |nil=>exact absurd hc hW.out
   |cons a r=>exact⟨a,r,rfl⟩
  obtain⟨wb,wo,sx,rfl,hR,cw⟩:=FE R1.sl (k:=0) (by rw[<-R1.sl.len,hC];simp)
  have hS:Hid (sx=bA k0):=by show _=_;rw[hC] at hR;exact (Zi hR).symm
  clear kN kW hR
  go_wp2_with fail
  refine (k1 _ (Yg _ _)).mono ?_
  rintro e u ⟨rfl,hu⟩
  subst hu
  go_wp2_with fail
  refine (k2 _ (Yg _ _)).mono ?_
  rintro e u ⟨rfl,hu⟩
  subst hu
  go_wp2_with fail
  refine (k3 _ (Yg _ _)).mono ?_
  rintro e u ⟨rfl,hu⟩
  subst hu
  go_wp2_with fail
  have hH:Below u.heap.size u (u.alloc (.cells #[.int .i64 n1,.int .i64 n2,.string t3,.int .i64 0] 68)):=by go_grown
  have CB:=Blk.new u #[.int .i64 n1,.int .i64 n2,.string t3,.int .i64 0] 68
  generalize u.alloc (.cells #[.int .i64 n1,.int .i64 n2,.string t3,.int .i64 0] 68)=W2 at *
  refine (k4 _ hH).mono ?_
  rintro e x ⟨rfl,hu⟩
  obtain rfl:W2=x:=hu.symm
  go_wp2_with fail
  refine (Cv t4 _ (by omega)).mono ?_
  rintro e x' ⟨rfl,hu⟩
  obtain rfl:W2=x':=hu.symm
  rw[h9.out]
  have y3:=CB.cell 3
  have f3:=CB.frozen 3
  go_upto_region 8 with fail
  have h5:W2.grownBy (W2.setCell ⟨u.heap.size,3,none⟩ (.int .i64 n4)) (some u.heap.size):=af_ (Yh _ _) _ _
  have hZ:Blk (W2.setCell ⟨u.heap.size,3,none⟩ (.int .i64 n4)) u.heap.size #[.int .i64 n1,.int .i64 n2,.string t3,.int .i64 n4] 68:=by simpa using CB.set 3 (.int .i64 n4)
  have ho:=ao_ hH h5 (Zd _)
  generalize W2.setCell ⟨u.heap.size,3,none⟩ (.int .i64 n4)=W3 at *
  clear h5 CB y3 f3 hH W2 b0 b1 b2 b3 b4 b5
  replace PB:=PB.below ho
  replace RB:=RB.below ho
  replace E1:=E1.below ho
  replace V1:=V1.below ho
  replace C1:=C1.below ho
  replace C2:=C2.below ho
  replace R1:=R1.below ho
  replace AL:Al2 (VoR W3 B) vr p.vs:=AL.imp fun _ _ _ h=>h.below ho
  replace cw:=Ab ho cw
  rw[Nat.add_zero] at cw
  have qh:0<wn:=by rw[<-R1.sl.len,hC];simp
  replace hn:=Aa hn ho
  clear ho
  have M3:AE B W3 (.agg #[.int .i64 p.size,.int .i64 p.next,.slice ea en ec,.slice va vn vc,.slice ra rn rc,.slice la ln lc]) p:=⟨ea,en,ec,va,vn,vc,ra,rn,rc,la,ln,lc,vr,rfl,E1,V1,C1,C2,hw,AL,N1,N2⟩
  have hq:Below B w W3:=hn.mono hB
  have hF:Hid (AM p line.data.toList=BG p k0 ws line.data.toList):=by
   show _=_
   unfold AM
   rw[hD.out,hC]
   rfl
  replace hg:Ft k0=3:=by rw[hD.out,hC] at hg;exact hg
  have hh:sx.toList=k0:=by rw[hS.out,Zu,Af]
  by_cases hk:k0=BA
  ·rw[hk] at hg
   exact absurd hg (by decide)
  have ha:¬ k0=BA:=hk
  by_cases hkexK:k0=exK
  ·skip
   rw[hkexK] at hg
   exact absurd hg (by decide)
  by_cases hkvolK:k0=Cl
  ·skip
   rw[hkvolK] at hg
   exact absurd hg (by decide)
  by_cases hkfileK:k0=Bz
  ·skip
   rw[hkfileK] at hg
   exact absurd hg (by decide)
  by_cases hkpartK:k0=partK
  ·skip
   rw[hkpartK] at hg
   exact absurd hg (by decide)
  by_cases hkrefK:k0=B7
  ·skip
   have epoolK:¬ sx.toList=[112,111,111,108]:=fun e=>ha (by rw[<-hh,e];rfl)
   have eexK:¬ sx.toList=[101,120,116,101,110,116]:=fun e=>hkexK (by rw[<-hh,e];rfl)
   have evolK:¬ sx.toList=[118,111,108,117,109,101]:=fun e=>hkvolK (by rw[<-hh,e];rfl)
   have efileK:¬ sx.toList=[102,105,108,101]:=fun e=>hkfileK (by rw[<-hh,e];rfl)
   have epartK:¬ sx.toList=[112,97,114,116]:=fun e=>hkpartK (by rw[<-hh,e];rfl)
   have erefK:sx.toList=[114,101,102]:=by rw[hh,hkrefK];rfl
   have hP:Hid (AM p line.data.toList={p with rf:=p.rf++[(⟨⟨n1,n2,t3⟩,n4⟩:Ct)]}):=by
    show _=_
    rw[hF.out]
    unfold BG
    rw[if_neg ha,if_neg hkexK,if_neg hkvolK,if_neg hkfileK,if_neg hkpartK,if_pos hkrefK]
    unfold ctQ;rw[hN.out,hO.out,hT.out,hQ.out]
   clear hh hF
   have h8:rn<=60000:=by rw[<-C1.sl.len];exact Zl hd.rf hK
   obtain⟨i0,hM,hE,hX,hY⟩:=info_parts KI
   obtain⟨c0,c1,c2,c3⟩:=cbx hZ
   obtain⟨p0,p1,p2,p3,p4,p5⟩:=PB.sixM
   have q4:=PB.frozen 4
   have he:Below W3.heap.size W3 (W3.alloc (.cells (Ct.cs (⟨⟨n1,n2,t3⟩,n4⟩:Ct)).toArray tC)):=(Yg _ _).alloc (Zd _) _
   go_wp2_with (at_builtin;refine ag_ rfl (fun K hK=>mX_ _ _ 26 rfl B tC i0 (.agg #[.int .i64 0,.int .i64 0,.string .empty,.int .i64 0]) 40 underlying26 hM hE hX hY rfl (by decide) Ew Hl ra rn rc _ rfl (C1.alloc _) _ 1 1 [(⟨⟨n1,n2,t3⟩,n4⟩:Ct)] rfl (Ci Ew _ (⟨⟨n1,n2,t3⟩,n4⟩:Ct) _ _ rfl) (fun ad h=>(by cases h;rfl)) (fun h=>(by cases h)) (rn+1) rfl (by unfold maxLen;omega) (by omega) (by have:=hq.size;simp;omega) (fun a4 cap4 w4 R4 hf hz=>hK _ _ (GI.out ?_))))
   refine GI.mk ?_
   have hj:=(C1.below he).rowTy (m:=rn) (k:=rc)
   have E5:=(E1.below he).ty hf hj (by decide)
   have V5:=(V1.below he).ty hf hj (by decide)
   have AL5:Al2 (VoR w4 B) vr p.vs:=AL.imp fun _ _ _ h=>(h.below he).ty hf hj (by decide) (by decide)
   have O5:=(C2.below he).off hf (fun ad e=>Jk (fun ad' e'=>hw ad' ad e' e))
   have hs:=(PB.below he).ty hf hj (by decide)
   have hG:=(RB.below he).ty hf hj (by decide)
   have hI:Below B w w4:=(hq.alloc (Zl hB hq.size) _).grown hf (by have:=hq.size;simp;omega) (Cg fun ad e=>(C1.block ad e).1)
   have hp:∀ x y,a4=some x->la=some y->x.block≠y.block:=fun x y hx hy=>by
    rcases hz x hx with⟨ad,e,q⟩ | q
    ·rw[<-q];exact hw ad y e hy
    ·have:=(C2.block y hy).2;simp at q;omega
   have M5:AE B w4 (.agg #[.int .i64 p.size,.int .i64 p.next,.slice ea en ec,.slice va vn vc,.slice a4 (rn+1) cap4,.slice la ln lc]) {p with rf:=p.rf++[(⟨⟨n1,n2,t3⟩,n4⟩:Ct)]}:=⟨ea,en,ec,va,vn,vc,a4,rn+1,cap4,la,ln,lc,vr,rfl,E5,V5,R4,O5,hp,AL5,N1,N2⟩
   clear hj hf hz he hp E5 V5 AL5 O5 R4 p0 p1 p2 p3 p4 p5 q4 c0 c1 c2 c3
   have p4:=hs.cell 4
   have q4:=hs.frozen 4
   go_upto_region 28 with fail
   obtain⟨ht,M6,hJ,hA⟩:=DD hs hI hB M5 4 (.slice a4 (rn+1) cap4)
   have hb:=hG.grown hA (by omega)
   simp only[Yj,Yq,Yr] at ht
   generalize w4.setCell ⟨w.heap.size,4,none⟩ (.slice a4 (rn+1) cap4)=W6 at *
   clear hA p4 q4 cw
   obtain⟨v0,v1,v2,v3,v4,v5⟩:=ht.sixM
   obtain⟨r0,r1,r2,r3,r4,r5⟩:=hb.sixM
   have g0:=hb.frozen 0
   have g1:=hb.frozen 1
   have g2:=hb.frozen 2
   have g3:=hb.frozen 3
   have g4:=hb.frozen 4
   have g5:=hb.frozen 5
   go_wp2
   obtain⟨E8,M8,hL⟩:=AA hb hJ (by omega) (M6)
   change bodyPost _ _ _ _ _ (AV W6 (w.heap.size+1) (.int .i64 p.size) (.int .i64 p.next) (.slice ea en ec) (.slice va vn vc) (.slice a4 (rn+1) cap4) (.slice la ln lc))
   generalize AV W6 (w.heap.size+1) (.int .i64 p.size) (.int .i64 p.next) (.slice ea en ec) (.slice va vn vc) (.slice a4 (rn+1) cap4) (.slice la ln lc)=W8 at *
   refine YW (results_cell_row rfl _ W8 (w.heap.size+1) _ _ _ _ rfl E8 underlying28 rfl (by kernel_rfl)) rfl ?_
   exact⟨⟨_,rfl,by rw[hP.out];exact M8⟩,hL⟩
  by_cases hklateK:k0=Bj
  ·skip
   have epoolK:¬ sx.toList=[112,111,111,108]:=fun e=>ha (by rw[<-hh,e];rfl)
   have eexK:¬ sx.toList=[101,120,116,101,110,116]:=fun e=>hkexK (by rw[<-hh,e];rfl)
   have evolK:¬ sx.toList=[118,111,108,117,109,101]:=fun e=>hkvolK (by rw[<-hh,e];rfl)
   have efileK:¬ sx.toList=[102,105,108,101]:=fun e=>hkfileK (by rw[<-hh,e];rfl)
   have epartK:¬ sx.toList=[112,97,114,116]:=fun e=>hkpartK (by rw[<-hh,e];rfl)
   have erefK:¬ sx.toList=[114,101,102]:=fun e=>hkrefK (by rw[<-hh,e];rfl)
   have elateK:sx.toList=[108,97,116,101]:=by rw[hh,hklateK];rfl
   have hP:Hid (AM p line.data.toList={p with lt:=p.lt++[(⟨⟨n1,n2,t3⟩,n4⟩:Ct)]}):=by
    show _=_
    rw[hF.out]
    unfold BG
    rw[if_neg ha,if_neg hkexK,if_neg hkvolK,if_neg hkfileK,if_neg hkpartK,if_neg hkrefK,if_pos hklateK]
    unfold ctQ;rw[hN.out,hO.out,hT.out,hQ.out]
   clear hh hF
   have h8:ln<=60000:=by rw[<-C2.sl.len];exact Zl hd.lt hK
   obtain⟨i0,hM,hE,hX,hY⟩:=info_parts KI
   obtain⟨c0,c1,c2,c3⟩:=cbx hZ
   obtain⟨p0,p1,p2,p3,p4,p5⟩:=PB.sixM
   have q4:=PB.frozen 5
   have he:Below W3.heap.size W3 (W3.alloc (.cells (Ct.cs (⟨⟨n1,n2,t3⟩,n4⟩:Ct)).toArray tC)):=(Yg _ _).alloc (Zd _) _
   go_wp2_with (at_builtin;refine ag_ rfl (fun K hK=>mX_ _ _ 26 rfl B tC i0 (.agg #[.int .i64 0,.int .i64 0,.string .empty,.int .i64 0]) 40 underlying26 hM hE hX hY rfl (by decide) Ew Hl la ln lc _ rfl (C2.alloc _) _ 1 1 [(⟨⟨n1,n2,t3⟩,n4⟩:Ct)] rfl (Ci Ew _ (⟨⟨n1,n2,t3⟩,n4⟩:Ct) _ _ rfl) (fun ad h=>(by cases h;rfl)) (fun h=>(by cases h)) (ln+1) rfl (by unfold maxLen;omega) (by omega) (by have:=hq.size;simp;omega) (fun a4 cap4 w4 R4 hf hz=>hK _ _ (GI.out ?_))))
   refine GI.mk ?_
   have hj:=(C2.below he).rowTy (m:=ln) (k:=lc)
   have E5:=(E1.below he).ty hf hj (by decide)
   have V5:=(V1.below he).ty hf hj (by decide)
   have AL5:Al2 (VoR w4 B) vr p.vs:=AL.imp fun _ _ _ h=>(h.below he).ty hf hj (by decide) (by decide)
   have O5:=(C1.below he).off hf (fun ad e=>Jk (fun ad' e'=>(hw ad ad' e e').symm))
   have hs:=(PB.below he).ty hf hj (by decide)
   have hG:=(RB.below he).ty hf hj (by decide)
   have hI:Below B w w4:=(hq.alloc (Zl hB hq.size) _).grown hf (by have:=hq.size;simp;omega) (Cg fun ad e=>(C2.block ad e).1)
   have hp:∀ x y,ra=some x->a4=some y->x.block≠y.block:=fun x y hx hy=>by
    rcases hz y hy with⟨ad,e,q⟩ | q
    ·rw[<-q];exact hw x ad hx e
    ·have:=(C1.block x hx).2;simp at q;omega
   have M5:AE B w4 (.agg #[.int .i64 p.size,.int .i64 p.next,.slice ea en ec,.slice va vn vc,.slice ra rn rc,.slice a4 (ln+1) cap4]) {p with lt:=p.lt++[(⟨⟨n1,n2,t3⟩,n4⟩:Ct)]}:=⟨ea,en,ec,va,vn,vc,ra,rn,rc,a4,ln+1,cap4,vr,rfl,E5,V5,O5,R4,hp,AL5,N1,N2⟩
   clear hj hf hz he hp E5 V5 AL5 O5 R4 p0 p1 p2 p3 p4 p5 q4 c0 c1 c2 c3
   have p4:=hs.cell 5
   have q4:=hs.frozen 5
   go_upto_region 28 with fail
   obtain⟨ht,M6,hJ,hA⟩:=DD hs hI hB M5 5 (.slice a4 (ln+1) cap4)
   have hb:=hG.grown hA (by omega)
   simp only[Yj,Yq,Yr] at ht
   generalize w4.setCell ⟨w.heap.size,5,none⟩ (.slice a4 (ln+1) cap4)=W6 at *
   clear hA p4 q4 cw
   obtain⟨v0,v1,v2,v3,v4,v5⟩:=ht.sixM
   obtain⟨r0,r1,r2,r3,r4,r5⟩:=hb.sixM
   have g0:=hb.frozen 0
   have g1:=hb.frozen 1
   have g2:=hb.frozen 2
   have g3:=hb.frozen 3
   have g4:=hb.frozen 4
   have g5:=hb.frozen 5
   go_wp2
   obtain⟨E8,M8,hL⟩:=AA hb hJ (by omega) (M6)
   change bodyPost _ _ _ _ _ (AV W6 (w.heap.size+1) (.int .i64 p.size) (.int .i64 p.next) (.slice ea en ec) (.slice va vn vc) (.slice ra rn rc) (.slice a4 (ln+1) cap4))
   generalize AV W6 (w.heap.size+1) (.int .i64 p.size) (.int .i64 p.next) (.slice ea en ec) (.slice va vn vc) (.slice ra rn rc) (.slice a4 (ln+1) cap4)=W8 at *
   refine YW (results_cell_row rfl _ W8 (w.heap.size+1) _ _ _ _ rfl E8 underlying28 rfl (by kernel_rfl)) rfl ?_
   exact⟨⟨_,rfl,by rw[hP.out];exact M8⟩,hL⟩
  rw[Ft,if_neg ha,if_neg hkexK,if_neg hkvolK,if_neg hkfileK,if_neg hkpartK,if_neg hkrefK,if_neg hklateK] at hg
  exact absurd hg (by decide)
theorem Ir (B K:Nat)(v:Value)(p:Po)(line:ByteArray)(w:World)(h:AE B w v p)(hB:B<=w.heap.size)(hK:K<=60000)(hd:Fm K p)(hl:line.size<=60000) :
  Calls prog 60 #[v,.string line] w fun e w'=>(∃ v',e=.returned v'∧AE B w' v' (AM p line.data.toList))∧Below B w w':=by
 obtain⟨g,hg⟩:∃ g,Ft (AY (Cm line.data.toList) 0)=g:=⟨_,rfl⟩
 have h4:g=0∨g=1∨g=2∨g=3:=by
  rw[<-hg]
  unfold Ft
  repeat' (first | (split) | (simp;done))
 rcases h4 with rfl | rfl | rfl | rfl
 ·exact Hw B K v p line w h hB hK hd hl hg
 ·exact Hx B K v p line w h hB hK hd hl hg
 ·exact Hy B K v p line w h hB hK hd hl hg
 ·exact Hz B K v p line w h hB hK hd hl hg
theorem AE.agg6 {B:Nat}{w:World}{v:Value}{p:Po}(h:AE B w v p):∃ x0 x1 x2 x3 x4 x5,v=.agg #[x0,x1,x2,x3,x4,x5]:=by
 obtain⟨ea,en,ec,va,vn,vc,ra,rn,rc,la,ln,lc,vr,e,_⟩:=h.out
 exact⟨_,_,_,_,_,_,e⟩
theorem Bq {P:Program}{fn:Func}{p q:Tmp}{ty:TypeId}(h:fn.results=#[.cell p ty,.tmp q])(tmps:Array Value)(w:World)(g:Nat)(t:TypeId)(cs:Array Value)(fr:Nat×Nat)(d:TypeDesc)(v:Value)
  (hp:tmps.getD p undef=.pointer (some ⟨g,0,none⟩)) (hq:tmps.getD q undef=v) (hg:w.heap[g]?=some (.cells cs t fr))
  (hu:P.underlying ty=some d) (hd:(match d with | .struct _ | .array _ _=>true | _=>false)=true) (hi:(P.info? ty).map (·.size)=some cs.size) :
  (results fn tmps).run P w=.ok (.tuple #[.agg cs,v]) w:=by
 have ha:tmps[p]?.getD undef=.pointer (some ⟨g,0,none⟩):=by simpa using hp
 have hb:tmps[q]?.getD undef=v:=by simpa using hq
 simp[results,h,ha,hb,asAddr,run_loadVar_row w g t ty cs fr d hg hu hd hi]
theorem GU:∀ (n k k':Nat) (l:By),l.length<=n->l.length<=k->l.length<=k'->lnsB k l=lnsB k' l
 |0,k,k',l,h,_,_=>by
  obtain rfl:=Zt (Nat.le_zero.1 h)
  cases k<;>cases k'<;>rfl
 |n+1,k,k',l,h,h1,h2=>by
  by_cases hl:l=[]
  ·subst hl
   cases k<;>cases k'<;>rfl
  ·have hp:0<l.length:=List.length_pos_iff.2 hl
   obtain⟨k,rfl⟩:∃ j,k=j+1:=⟨k-1,by omega⟩
   obtain⟨k',rfl⟩:∃ j,k'=j+1:=⟨k'-1,by omega⟩
   rw[lnsB,lnsB,if_neg hl,if_neg hl]
   cases hc:cutB 10 l with
   |none=>rfl
   |some q=>
    have:q.2.length<l.length:=by
     obtain⟨h1,_⟩:=A4 (a:=q.1) (b:=q.2) hc
     rw[h1];simp;omega
    simp only
    rw[GU n k k' q.2 (by omega) (by omega) (by omega)]
theorem J5 {l:By}(h:l≠[])(hc:cutB 10 l=none):lnsB l.length l=none:=by
 have hp:0<l.length:=List.length_pos_iff.2 h
 obtain⟨k,hk⟩:∃ j,l.length=j+1:=⟨l.length-1,by omega⟩
 rw[hk,lnsB,if_neg h,hc]
theorem J4 {l:By}{q:By×By}(h:l≠[])(hc:cutB 10 l=some q):lnsB l.length l=(lnsB q.2.length q.2).map (q.1::·)∧q.2.length<l.length∧q.1.length<l.length:=by
 obtain⟨h1,_⟩:=A4 (a:=q.1) (b:=q.2) hc
 have h2:=congrArg List.length h1
 simp at h2
 obtain⟨k,hk⟩:∃ j,l.length=j+1:=⟨l.length-1,by omega⟩
 refine ⟨?_,by omega,by omega⟩
 rw[hk,lnsB,if_neg h,hc]
 simp only
 rw[GU _ k q.2.length q.2 (Zd _) (by omega) (Zd _)]
theorem J9:Fh []=none:=by rw[Ht];rfl
theorem IV:BL Ar=⟨#[]⟩:=by
 unfold BL
 rw[if_neg]
 intro h
 have:=DQ h
 simp only[Ap,Zf,ZU] at h
 have h1:=h.1.1.1.1.1.2
 simp[Ar] at h1
theorem GG (s:ByteArray)(w:World)(hs:s.size<=2000000)(hw:0<w.heap.size) :
  Calls prog 32 #[.string s] w fun e w'=>(∃ v,e=.returned (.tuple #[v,.bool (CM s.data.toList).isSome])∧AE w.heap.size w' v ((CM s.data.toList).getD Ar))∧Below w.heap.size w w':=by
 obtain⟨A,hA⟩:∃ A,Hid (CM s.data.toList=A):=⟨_,rfl⟩
 rw[hA.out]
 have he:Hid (s.size=s.data.toList.length):=Lib.size_eq s
 go_enter func32,ntmps32
 go_wp2_with fail
 go_loopw [5] (fun sv wr=>∃ (rest:ByteArray) (p:Po) (k:Nat) (x0 x1 x2 x3 x4 x5:Value),sv=.string rest∧Blk wr w.heap.size #[.int .i64 0,.int .i64 0,.slice none 0 0,.slice none 0 0,.slice none 0 0,.slice none 0 0] 28∧Blk wr (w.heap.size+1) #[x0,x1,x2,x3,x4,x5] 28∧AE (w.heap.size+2) wr (.agg #[x0,x1,x2,x3,x4,x5]) p∧Fm k p∧JO 60000 p∧k<=60000∧(s.size<=60000->k+rest.size<=s.size)∧(60000<s.size->rest=s∧p=Ar)∧Hid (s.size<=60000->Gr s.data.toList=(lnsB rest.data.toList.length rest.data.toList).map (·.foldl AM p))∧Below w.heap.size w wr) (fun sv _=>match sv with | .string r=>r.size | _=>0)
 case atStart=>
  refine ⟨s,Ar,0,_,_,_,_,_,_,rfl,?_,?_,BQ _ _,GP.1,GP.2,by omega,fun _=>by omega,fun _=>⟨rfl,rfl⟩,fun _=>rfl,by go_grown⟩
  ·exact (Blk.new w _ _).below ((Yg _ _).alloc (Zd _) _)
  ·exact Blk.new' _ _ _ _ (by simp)
 case round=>
  obtain⟨rest,p,k,x0,x1,x2,x3,x4,x5,rfl,RB,PB,M,hd,hS,hk,hW,hQ,hI,hB⟩:=hrel
  rcases Nat.lt_or_ge 60000 s.size with hb | hb
  ·obtain⟨rfl,rfl⟩:=hQ hb
   have hl:A=none:=by rw[<-hA.out,CM,if_neg (by have:=he.out;omega)]
   subst hl
   have hK:rest.toList.isEmpty=false:=Bool.eq_false_iff.2 fun e=>by
    rw[Zu] at e
    have he:=he.out
    rw[List.isEmpty_iff.1 e] at he
    simp only[YK] at he
    omega
   have hU:¬ rest.toList=[]:=fun e=>by rw[e] at hK;cases hK
   generalize hp:Ar=p at *
   obtain⟨v0,v1,v2,v3,v4,v5⟩:=PB.sixM
   have q:=EK (w.heap.size+2) (by omega) _ p wr M.at (hd.dimP hk hS) F1
   obtain⟨T,hT⟩:∃ T,Hid (BL p=T):=⟨_,rfl⟩
   rw[hT.out] at q
   go_wp2_with fail
   refine q.mono ?_
   rintro e w1 ⟨rfl,ha⟩
   clear q v0 v1 v2 v3 v4 v5
   replace RB:=RB.below ha
   replace PB:=PB.below ha
   replace M:=M.below ha
   replace hB:=Aa hB ha
   clear ha
   obtain⟨r0,r1,r2,r3,r4,r5⟩:=RB.sixM
   have g0:=RB.frozen 0
   have g1:=RB.frozen 1
   have g2:=RB.frozen 2
   have g3:=RB.frozen 3
   have g4:=RB.frozen 4
   have g5:=RB.frozen 5
   obtain⟨v0,v1,v2,v3,v4,v5⟩:=PB.sixM
   have hF:(T.toList==rest.toList)=false:=by
    rw[ZV,Zu,Zu,<-hT.out,<-hp,IV]
    intro e
    have he:=he.out
    rw[<-e] at he
    simp only[YK] at he
    omega
   go_wp2
   subst hp
   obtain⟨E8,M8,hg⟩:=AA (p:=Ar) RB hB (Zd _) (BQ w.heap.size w1)
   change bodyPost _ _ _ _ _ (AV w1 w.heap.size (.int .i64 0) (.int .i64 0) (.slice none 0 0) (.slice none 0 0) (.slice none 0 0) (.slice none 0 0))
   generalize AV w1 w.heap.size (.int .i64 0) (.int .i64 0) (.slice none 0 0) (.slice none 0 0) (.slice none 0 0) (.slice none 0 0)=W8 at *
   refine YW (Bq rfl _ W8 w.heap.size _ _ _ _ _ rfl rfl E8 underlying28 rfl (by kernel_rfl)) rfl ?_
   exact⟨⟨_,rfl,M8⟩,hg⟩
  ·have hh:=hI.out hb
   by_cases hr:rest.data.toList=[]
   ·have hu:rest.toList=[]:=by rw[Zu,hr]
    have hV:rest.toList.isEmpty=true:=by rw[Zu,hr];rfl
    rw[hr] at hh
    have hD:Gr s.data.toList=some p:=by rw[hh];rfl
    clear hh hI
    by_cases hse:s.data.toList=[]
    ·have hz:s.toList=[]:=by rw[Zu,hse]
     have hy:s.toList.isEmpty=true:=by rw[Zu,hse];rfl
     have hl:A=none:=by rw[<-hA.out,CM,if_pos (by have:=he.out;omega),hse,J9]
     subst hl
     obtain⟨r0,r1,r2,r3,r4,r5⟩:=RB.sixM
     have g0:=RB.frozen 0
     have g1:=RB.frozen 1
     have g2:=RB.frozen 2
     have g3:=RB.frozen 3
     have g4:=RB.frozen 4
     have g5:=RB.frozen 5
     go_wp2
     obtain⟨E8,M8,hg⟩:=AA (p:=Ar) RB hB (Zd _) (BQ w.heap.size wr)
     change bodyPost _ _ _ _ _ (AV wr w.heap.size (.int .i64 0) (.int .i64 0) (.slice none 0 0) (.slice none 0 0) (.slice none 0 0) (.slice none 0 0))
     generalize AV wr w.heap.size (.int .i64 0) (.int .i64 0) (.slice none 0 0) (.slice none 0 0) (.slice none 0 0) (.slice none 0 0)=W8 at *
     refine YW (Bq rfl _ W8 w.heap.size _ _ _ _ _ rfl rfl E8 underlying28 rfl (by kernel_rfl)) rfl ?_
     exact⟨⟨_,rfl,M8⟩,hg⟩
    ·have hz:¬ s.toList=[]:=by rw[Zu];exact hse
     have hy:s.toList.isEmpty=false:=Bool.eq_false_iff.2 fun e=>hse (by rw[Zu] at e;exact List.isEmpty_iff.1 e)
     have hj:Hid (A=if BL p=s then some p else none):=by
      show _=_
      rw[<-hA.out,CM,if_pos (by have:=he.out;omega),Jy s hse,hD]
      rfl
     clear hD
     obtain⟨v0,v1,v2,v3,v4,v5⟩:=PB.sixM
     have q:=EK (w.heap.size+2) (by omega) _ p wr M.at (hd.dimP hk hS) F1
     obtain⟨T,hT⟩:∃ T,Hid (BL p=T):=⟨_,rfl⟩
     rw[hT.out] at q
     go_wp2_with fail
     refine q.mono ?_
     rintro e w1 ⟨rfl,ha⟩
     clear q v0 v1 v2 v3 v4 v5
     replace RB:=RB.below ha
     replace PB:=PB.below ha
     replace M:=M.below ha
     replace hB:=Aa hB ha
     clear ha
     obtain⟨r0,r1,r2,r3,r4,r5⟩:=RB.sixM
     have g0:=RB.frozen 0
     have g1:=RB.frozen 1
     have g2:=RB.frozen 2
     have g3:=RB.frozen 3
     have g4:=RB.frozen 4
     have g5:=RB.frozen 5
     obtain⟨v0,v1,v2,v3,v4,v5⟩:=PB.sixM
     rw[hT.out] at hj
     by_cases hTs:T=s
     ·have hF:(T.toList==s.toList)=true:=by rw[hTs];simp
      rw[if_pos hTs] at hj
      have:=hj.out
      subst this
      obtain⟨ea,en,ec,va,vn,vc,ra,rn,rc,la,ln,lc,vr,ev,_⟩:=M.out
      cases ev
      go_wp2
      obtain⟨E8,M8,hg⟩:=AA RB hB (Zd _) (M.mono (by omega))
      change bodyPost _ _ _ _ _ (AV w1 w.heap.size (.int .i64 p.size) (.int .i64 p.next) (.slice ea en ec) (.slice va vn vc) (.slice ra rn rc) (.slice la ln lc))
      generalize AV w1 w.heap.size (.int .i64 p.size) (.int .i64 p.next) (.slice ea en ec) (.slice va vn vc) (.slice ra rn rc) (.slice la ln lc)=W8 at *
      refine YW (Bq rfl _ W8 w.heap.size _ _ _ _ _ rfl rfl E8 underlying28 rfl (by kernel_rfl)) rfl ?_
      exact⟨⟨_,rfl,M8⟩,hg⟩
     ·have hF:(T.toList==s.toList)=false:=by
       rw[ZV,Zu,Zu]
       exact fun e=>hTs (ByteArray.ext (Array.ext' e))
      rw[if_neg hTs] at hj
      have:=hj.out
      subst this
      go_wp2
      obtain⟨E8,M8,hg⟩:=AA (p:=Ar) RB hB (Zd _) (BQ w.heap.size w1)
      change bodyPost _ _ _ _ _ (AV w1 w.heap.size (.int .i64 0) (.int .i64 0) (.slice none 0 0) (.slice none 0 0) (.slice none 0 0) (.slice none 0 0))
      generalize AV w1 w.heap.size (.int .i64 0) (.int .i64 0) (.slice none 0 0) (.slice none 0 0) (.slice none 0 0) (.slice none 0 0)=W8 at *
      refine YW (Bq rfl _ W8 w.heap.size _ _ _ _ _ rfl rfl E8 underlying28 rfl (by kernel_rfl)) rfl ?_
      exact⟨⟨_,rfl,M8⟩,hg⟩
   ·have hu:¬ rest.toList=[]:=by rw[Zu];exact hr
    have hV:rest.toList.isEmpty=false:=Bool.eq_false_iff.2 fun e=>hr (by rw[Zu] at e;exact List.isEmpty_iff.1 e)
    have hx:Hid (rest.size=rest.data.toList.length):=Lib.size_eq rest
    have hR:=hW hb
    go_wp2_with fail
    refine (Dg 10 rest wr (by omega)).mono ?_
    rintro e w1 ⟨rfl,ha⟩
    replace RB:=RB.below ha
    replace PB:=PB.below ha
    replace M:=M.below ha
    replace hB:=Aa hB ha
    clear ha
    cases hc:cutB 10 rest.data.toList with
    |none=>
     have hv:EP 10 rest=.tuple #[.string rest,.string ⟨#[]⟩,.bool false]:=by unfold EP;rw[hc]
     have hl:A=none:=by
      rw[<-hA.out,CM,if_pos (by have:=he.out;omega),Jy s (by intro e;have he:=he.out;rw[e] at he;simp only[YK] at he;rw[hx.out] at hR;have:=List.length_pos_iff.2 hr;omega),hh,J5 hr hc]
      rfl
     subst hl
     rw[hv]
     clear hv hc hI hh
     obtain⟨r0,r1,r2,r3,r4,r5⟩:=RB.sixM
     have g0:=RB.frozen 0
     have g1:=RB.frozen 1
     have g2:=RB.frozen 2
     have g3:=RB.frozen 3
     have g4:=RB.frozen 4
     have g5:=RB.frozen 5
     go_wp2
     obtain⟨E8,M8,hg⟩:=AA (p:=Ar) RB hB (Zd _) (BQ w.heap.size w1)
     change bodyPost _ _ _ _ _ (AV w1 w.heap.size (.int .i64 0) (.int .i64 0) (.slice none 0 0) (.slice none 0 0) (.slice none 0 0) (.slice none 0 0))
     generalize AV w1 w.heap.size (.int .i64 0) (.int .i64 0) (.slice none 0 0) (.slice none 0 0) (.slice none 0 0) (.slice none 0 0)=W8 at *
     refine YW (Bq rfl _ W8 w.heap.size _ _ _ _ _ rfl rfl E8 underlying28 rfl (by kernel_rfl)) rfl ?_
     exact⟨⟨_,rfl,M8⟩,hg⟩
    |some q=>
     have hv:EP 10 rest=.tuple #[.string (bA q.1),.string (bA q.2),.bool true]:=by unfold EP;rw[hc]
     obtain⟨hL,hY,hZ⟩:=J4 hr hc
     rw[hL] at hh
     obtain⟨line,ho⟩:∃ x,Hid (bA q.1=x):=⟨_,rfl⟩
     obtain⟨more,ht⟩:∃ x,Hid (bA q.2=x):=⟨_,rfl⟩
     have hn:line.data.toList=q.1:=by rw[<-ho.out,Af]
     have hq:more.data.toList=q.2:=by rw[<-ht.out,Af]
     have hJ:line.size<=60000:=by rw[Lib.size_eq,hn];have:=hx.out;omega
     have hX:more.size+1<=rest.size:=by rw[Lib.size_eq,hq,hx.out];omega
     have hC:Hid (s.size<=60000->Gr s.data.toList=(lnsB more.data.toList.length more.data.toList).map (·.foldl AM (AM p line.data.toList))):=fun _=>by
      rw[hh,hq,hn]
      cases lnsB q.2.length q.2<;>rfl
     have hG:=hd.line line.data.toList
     have hE:=hS.line line.data.toList (by rw[<-Lib.size_eq];exact hJ)
     rw[ho.out,ht.out] at hv
     rw[hv]
     clear hv hc hI hh hL ho ht hn hq
     obtain⟨v0,v1,v2,v3,v4,v5⟩:=PB.sixM
     have h0:=hB.size
     have h1:=PB.lt
     go_wp2_with fail
     refine (Ir (w.heap.size+2) k _ p line w1 M (by omega) (by omega) hd hJ).mono ?_
     rintro e w2 ⟨⟨v',rfl,M2⟩,hm⟩
     obtain⟨y0,y1,y2,y3,y4,y5,rfl⟩:=M2.agg6
     clear v0 v1 v2 v3 v4 v5
     have hM:Blk w2 w.heap.size #[.int .i64 0,.int .i64 0,.slice none 0 0,.slice none 0 0,.slice none 0 0,.slice none 0 0] 28:=(hm.block _ (by omega)).trans RB
     have hf:Blk w2 (w.heap.size+1) #[x0,x1,x2,x3,x4,x5] 28:=(hm.block _ (by omega)).trans PB
     obtain⟨ea,en,ec,va,vn,vc,ra,rn,rc,la,ln,lc,vr,ev,_⟩:=M2.out
     obtain⟨P0,hP⟩:∃ P0,Hid (AM p line.data.toList=P0):=⟨_,rfl⟩
     rw[hP.out] at M2 hG hE hC ev
     cases ev
     have hN:Below w.heap.size w w2:=hB.trans (hm.mono (by omega))
     clear RB PB hB M hm
     obtain⟨v0,v1,v2,v3,v4,v5⟩:=hf.sixM
     have g0:=hf.frozen 0
     have g1:=hf.frozen 1
     have g2:=hf.frozen 2
     have g3:=hf.frozen 3
     have g4:=hf.frozen 4
     have g5:=hf.frozen 5
     go_wp2
     have hH:w2.grownBy (AV w2 (w.heap.size+1) (.int .i64 P0.size) (.int .i64 P0.next) (.slice ea en ec) (.slice va vn vc) (.slice ra rn rc) (.slice la ln lc)) (some (w.heap.size+1)):=af_ (af_ (af_ (af_ (af_ (af_ (Yh _ _) _ _) _ _) _ _) _ _) _ _) _ _
     obtain⟨P9,_,hO⟩:=AA (p:=P0) hf hN (by omega) (M2.mono (by omega))
     have M9:=M2.box hH hf
     have R9:=hM.grown hH (by simp)
     go_roundw
     case rel=>exact⟨more,P0,k+1,_,_,_,_,_,_,rfl,R9,P9,M9,hG,hE,by omega,fun _=>by omega,fun h=>absurd h (by omega),hC,hO⟩
     case measure=>simp;omega
end Go.Proofs.YtkiceokhlceciaaGreatDoor
