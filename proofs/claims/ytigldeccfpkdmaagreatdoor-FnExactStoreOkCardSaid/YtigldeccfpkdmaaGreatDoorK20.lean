/- The text of a pool, by the program. The text of any pool, by the program. The text of a pool, by the model: flags and counts. -/
import Derived.Test.YtigldeccfpkdmaaGreatDoorK09
import Derived.Test.YtigldeccfpkdmaaGreatDoorK19
namespace Go.Proofs.YtigldeccfpkdmaaGreatDoor
open Go Go.RowKit Go.BigFrame Go.Shelf
set_option maxHeartbeats 20000000
set_option maxRecDepth 100000
theorem pe_ (w:World):Wr w.heap.size w.heap.size [] (w.alloc (.cells #[.pointer none,.slice none 0 0] 182)):=⟨.inl ⟨Nat.le_refl _,.slice none 0 0,Blk.new w _ _,⟨rfl,.inl ⟨rfl,rfl⟩⟩,by simp [Value.ownBlock]⟩⟩
theorem dA_ (B0:Nat) (v:Value) (p:Po) (w:World) (h:PoolAt B0 w v p) (hd:DimP p) (hp:poolB p=true) (hN:NumO p) (ht:TabP w) (hg:9<=w.heap.size) :
  Calls Tryz.prog 60 #[v] w fun e w'=>e=.returned (.string ⟨(textW p).toArray⟩)∧Below w.heap.size w w':=by
 have hPA:=h
 obtain ⟨ea,en,ec,va,vn,vc,ra,rn,rc,la,ln,lc,rfl,⟨h1,k1⟩,⟨h2,k2⟩,⟨h3,k3⟩,h4,k4⟩:=h
 obtain ⟨R,hR⟩:∃ R,Hid (textW p=R):=⟨_,rfl⟩
 have hlenT:=hN.len
 rw [hR.out] at hlenT
 rw [hR.out]
 obtain ⟨ds,hds⟩:∃ x,decB p.size=x:=⟨_,rfl⟩
 obtain ⟨dn,hdn⟩:∃ x,decB p.next=x:=⟨_,rfl⟩
 obtain ⟨L1,hL1⟩:∃ x,Hid (lineL [⟨#[112,111,111,108]⟩,ds,dn]=x):=⟨_,rfl⟩
 obtain ⟨L2,hL2⟩:∃ x,Hid (L1++exsW p.ex=x):=⟨_,rfl⟩
 obtain ⟨L3,hL3⟩:∃ x,Hid (L2++volsW p.vs=x):=⟨_,rfl⟩
 obtain ⟨L4,hL4⟩:∃ x,Hid (L3++ctsW refW p.rf=x):=⟨_,rfl⟩
 have hL5:Hid (L4++ctsW lateW p.lt=R):=by show _=_;rw [<-hR.out,<-hL4.out,<-hL3.out,<-hL2.out,<-hL1.out,<-hds,<-hdn];rfl
 have l5:Hid ((L4++ctsW lateW p.lt).length<=1000000):=by show _<=_;rw [hL5.out];exact hlenT
 have l4:Hid ((L3++ctsW refW p.rf).length<=1000000):=by have:=l5.out;rw [List.length_append] at this;show _<=_;rw [hL4.out];omega
 have l3:Hid ((L2++volsW p.vs).length<=1000000):=by have:=l4.out;rw [List.length_append] at this;show _<=_;rw [hL3.out];omega
 have l2:Hid ((L1++exsW p.ex).length<=1000000):=by have:=l3.out;rw [List.length_append] at this;show _<=_;rw [hL2.out];omega
 have l1:([]:List UInt8).length+(lineL [⟨#[112,111,111,108]⟩,ds,dn]).length<=1000000:=by have:=l2.out;rw [List.length_append,<-hL1.out] at this;simp;omega
 have hR0:R≠[]:=by
  rw [<-hL5.out,<-hL4.out,<-hL3.out,<-hL2.out,<-hL1.out]
  unfold lineL
  simp
 have hlx:Hid (p.ex.length=en):=h1.len
 have hlv:Hid (p.vs.length=vn):=h2.len
 have hlr:Hid (p.rf.length=rn):=h3.len
 have hll:Hid (p.lt.length=ln):=h4.len
 have hn1:en<=4194304:=by rw [<-h1.len];exact hd.1
 have hn2:vn<=4194304:=by rw [<-h2.len];exact hd.2.2.1
 have hn3:rn<=4194304:=by rw [<-h3.len];exact hd.2.2.2.2.1
 have hn4:ln<=4194304:=by rw [<-h4.len];exact hd.2.2.2.2.2.2.1
 obtain ⟨sz1,sz2⟩:=hN.size
 obtain ⟨nx1,nx2⟩:=hN.next
 go_enter Tryz.func60,Tryz.ntmps60
 go_wp2_with fail
 refine (cj_ B0 _ p _ (hPA.below (by go_grown)) hd).mono ?_
 rintro e w1 ⟨rfl,hB1⟩
 have C:Blk w1 w.heap.size #[.int .i64 p.size,.int .i64 p.next,.slice ea en ec,.slice va vn vc,.slice ra rn rc,.slice la ln lc] 26:=(Blk.new w _ _).below hB1
 have hBw1:Below w.heap.size w w1:=chain (by go_grown) hB1
 have hs1:w.heap.size+1<=w1.heap.size:=by have:=hB1.size;simp at this;omega
 clear hB1
 rw [hp]
 go_wp2_with fail
 have hA:Below w1.heap.size w1 (w1.alloc (.cells #[.pointer none,.slice none 0 0] 182)):=(Below.refl _ _).alloc (Nat.le_refl _) _
 have hW:=pe_ w1
 replace h1:=h1.below hBw1
 replace h2:=h2.below hBw1
 replace h3:=h3.below hBw1
 replace h4:=h4.below hBw1
 have ht1:=aK_ ht hBw1 hg
 have hg1:9<=w1.heap.size:=by omega
 clear k1 k2 k3 k4 hPA hR hlenT ht
 generalize w1.alloc (.cells #[.pointer none,.slice none 0 0] 182)=W at *
 have hSB:∀ u:World,Below w1.heap.size w1 u->u.cell? ⟨w.heap.size,0,none⟩=some (.int .i64 p.size)∧u.cell? ⟨w.heap.size,1,none⟩=some (.int .i64 p.next):=fun u hu=>⟨(C.below hu).cell 0,(C.below hu).cell 1⟩
 have hAd:Below w1.heap.size w1 W.drew:=hA.drew
 have hS0:(fun u:World=>u.cell? ⟨w.heap.size,0,none⟩=some (.int .i64 p.size)∧u.cell? ⟨w.heap.size,1,none⟩=some (.int .i64 p.next)) W.drew:=(hSB _ hAd)
 refine av_ (S:=(fun u:World=>u.cell? ⟨w.heap.size,0,none⟩=some (.int .i64 p.size)∧u.cell? ⟨w.heap.size,1,none⟩=some (.int .i64 p.next))) 8 (by kernel_rfl) rfl ?_
 refine tk 0 ?_ (hy:=by intro u hu;obtain ⟨u0,u1⟩:=hu;go_simp<;>with_reducible rfl)
 refine tk 1 ?_ (hy:=by intro u hu;obtain ⟨u0,u1⟩:=hu;go_simp<;>with_reducible rfl)
 refine tk 3 ?_ (hy:=by intro u hu;obtain ⟨u0,u1⟩:=hu;go_simp<;>with_reducible rfl)
 refine tk 4 ?_ (hy:=by intro u hu;obtain ⟨u0,u1⟩:=hu;go_simp<;>with_reducible rfl)
 refine oneL (i:=2) (by kernel_rfl) rfl (fun K hK=>?_)
 go_simp
 refine (ak_ p.size W.drew (by omega) (by omega) (aK_ ht1 hAd hg1)).mono ?_
 rintro e w2 ⟨rfl,hB2'⟩
 rw [hds]
 have hB2:Below W.heap.size W w2:=chain (Below.refl _ W).drew hB2'
 have hC2:=chain hA hB2
 dsimp only
 refine hK.out _ _ (hSB _ hC2) (fun hHeld=>?_)
 clear hK K
 try simp only [Act.put,lsA,lsB,lsC]
 refine oneL (i:=5) (by kernel_rfl) rfl (fun K hK=>?_)
 go_simp
 refine (ak_ p.next w2 (by omega) (by omega) (aK_ ht1 hC2 hg1)).mono ?_
 rintro e w3 ⟨rfl,hB3'⟩
 rw [hdn]
 have hB3:=chain hB2 hB3'
 have hC3:=chain hA hB3
 dsimp only
 refine hK.out _ _ (hSB _ hC3) (fun hHeld=>?_)
 clear hK K
 try simp only [Act.put,lsA,lsB,lsC]
 refine oneL (i:=6) (by kernel_rfl) rfl (fun K hK=>?_)
 go_simp
 have hA4:Below w3.heap.size w3 (w3.alloc (.cells #[.string ⟨#[112,111,111,108]⟩,.string ds,.string dn] 9)):=(Below.refl _ _).alloc (Nat.le_refl _) _
 have X4:=Blk.new w3 #[.string ⟨#[112,111,111,108]⟩,.string ds,.string dn] 9
 have hB4:=chain hB3 hA4
 have hC4:=chain hA hB4
 have hz4:=hC4.size
 have hz3:=X4.lt
 refine hK.out _ _ (hSB _ hC4) (fun hHeld=>?_)
 clear hK K
 try simp only [Act.put,lsA,lsB,lsC]
 generalize w3.alloc (.cells #[.string ⟨#[112,111,111,108]⟩,.string ds,.string dn] 9)=w4 at *
 refine oneL (i:=7) (by kernel_rfl) rfl (fun K hK=>?_)
 go_simp
 refine (a0_ w1.heap.size w1.heap.size [] [⟨#[112,111,111,108]⟩,ds,dn] w3.heap.size 0 3 w4 (hW.below hB4) (sl5 (ps:=[⟨#[112,111,111,108]⟩,ds,dn]) X4) hz3 (by simp) l1 (by simp) (by omega)).mono ?_
 rintro e w5 ⟨rfl,h5,hB5,_⟩
 rw [List.nil_append,hL1.out] at h5
 have hC5:=hC4.trans hB5
 dsimp only
 refine hK.out _ _ (hSB _ hC5) (fun hHeld=>?_)
 clear hK K
 try simp only [Act.put,lsA,lsB,lsC]
 refine wpAnyH_done (by kernel_rfl) ?_ _
 clear hS0 hHeld hSB X4 hB4 hC4 hA4 hB2 hB2' hB3 hB3' hB5 l1 hz3 hz4 hC2 hC3 hAd hA hW
 have y2:w5.cell? ⟨w.heap.size,2,none⟩=some (.slice ea en ec):=(C.below hC5).cell 2
 go_wp2_with fail
 go_loopw [26] (fun ix wr=>∃ (k:Nat),k<=en∧ix=.int .i64 k∧Wr w1.heap.size w1.heap.size (L1++exsW (p.ex.take k)) wr∧Below w1.heap.size w1 wr) (fun ix _=>en-(intOf ix).toNat)
 case atStart=>exact ⟨0,Nat.zero_le _,rfl,by simpa [exsW] using h5,hC5⟩
 case round=>
  clear h5 hC5 y2
  obtain ⟨k,hk,rfl,h6,hB6⟩:=hrel
  by_cases hlt:k<en
  ·obtain ⟨eb,eo,x,rfl,hx,c0,c1⟩:=bp_ h1 hlt
   obtain ⟨na1,na2⟩:=hN.ex x (List.mem_of_getElem? hx)
   have hst:Hid (exsW (p.ex.take (k+1))=exsW (p.ex.take k)++lineL (exW x)):=ba_ hx
   have hlp:=a2_ (f:=fun e=>lineL (exW e)) hx l2.out
   obtain ⟨Q0,hQ0⟩:∃ P,Hid (L1++exsW (p.ex.take k)=P):=⟨_,rfl⟩
   change (L1++exsW (p.ex.take k)++lineL (exW x)).length<=1000000 at hlp
   rw [hQ0.out] at h6 hlp
   rw [List.length_append] at hlp
   obtain ⟨da,hda⟩:∃ z,decB x.a=z:=⟨_,rfl⟩
   have hpt:Hid (exW x=[⟨#[101,120,116,101,110,116]⟩,da,x.d]):=by show _=_;unfold exW;rw [hda]
   rw [hpt.out] at hlp
   have g0:=bcell hB6 c0
   have g1:=bcell hB6 c1
   have hk1:(k:Int)<en:=by omega
   have hk2:(0:Int)<=k:=by omega
   have hz6:=hB6.size
   have hbl6:=h6.lt
   clear hx c0 c1
   go_wp2_with fail
   have hA:Below wr.heap.size wr (wr.alloc (.cells #[.int .i64 x.a,.string x.d] 136)):=(Below.refl _ _).alloc (Nat.le_refl _) _
   have PB:=Blk.new wr #[.int .i64 x.a,.string x.d] 136
   clear g0 g1
   generalize wr.alloc (.cells #[.int .i64 x.a,.string x.d] 136)=V at *
   have hSB:∀ u:World,Below V.heap.size V u->u.cell? ⟨wr.heap.size,0,none⟩=some (.int .i64 x.a)∧u.cell? ⟨wr.heap.size,1,none⟩=some (.string x.d):=fun u hu=>⟨(PB.below hu).cell 0,(PB.below hu).cell 1⟩
   have hS0:(fun u:World=>u.cell? ⟨wr.heap.size,0,none⟩=some (.int .i64 x.a)∧u.cell? ⟨wr.heap.size,1,none⟩=some (.string x.d)) V.drew:=(hSB _ (Below.refl _ V).drew)
   refine av_ (S:=(fun u:World=>u.cell? ⟨wr.heap.size,0,none⟩=some (.int .i64 x.a)∧u.cell? ⟨wr.heap.size,1,none⟩=some (.string x.d))) 7 (by kernel_rfl) rfl ?_
   refine tk 0 ?_ (hy:=by intro u hu;obtain ⟨u0,u1⟩:=hu;go_simp<;>with_reducible rfl)
   refine tk 1 ?_ (hy:=by intro u hu;obtain ⟨u0,u1⟩:=hu;go_simp<;>with_reducible rfl)
   refine tk 3 ?_ (hy:=by intro u hu;obtain ⟨u0,u1⟩:=hu;go_simp<;>with_reducible rfl)
   refine tk 4 ?_ (hy:=by intro u hu;obtain ⟨u0,u1⟩:=hu;go_simp<;>with_reducible rfl)
   refine oneL (i:=2) (by kernel_rfl) rfl (fun K hK=>?_)
   go_simp
   refine (ak_ x.a V.drew (by omega) (by omega) (aK_ ht1 (hB6.trans (hA.drew.mono hz6)) hg1)).mono ?_
   rintro e w2 ⟨rfl,hB2'⟩
   rw [hda]
   have hB2:Below V.heap.size V w2:=chain (Below.refl _ V).drew hB2'
   dsimp only
   refine hK.out _ _ (hSB _ hB2) (fun hHeld=>?_)
   clear hK K
   try simp only [Act.put,lsA,lsB,lsC]
   refine oneL (i:=5) (by kernel_rfl) rfl (fun K hK=>?_)
   go_simp
   have hA4:Below w2.heap.size w2 (w2.alloc (.cells #[.string ⟨#[101,120,116,101,110,116]⟩,.string da,.string x.d] 9)):=(Below.refl _ _).alloc (Nat.le_refl _) _
   have X4:=Blk.new w2 #[.string ⟨#[101,120,116,101,110,116]⟩,.string da,.string x.d] 9
   have hB4:=chain hB2 hA4
   have hC4:=chain hA hB4
   have hz4:=hC4.size
   have hz3:=X4.lt
   refine hK.out _ _ (hSB _ hB4) (fun hHeld=>?_)
   clear hK K
   try simp only [Act.put,lsA,lsB,lsC]
   generalize w2.alloc (.cells #[.string ⟨#[101,120,116,101,110,116]⟩,.string da,.string x.d] 9)=w4 at *
   refine oneL (i:=6) (by kernel_rfl) rfl (fun K hK=>?_)
   go_simp
   refine (a0_ w1.heap.size w1.heap.size Q0 [⟨#[101,120,116,101,110,116]⟩,da,x.d] w2.heap.size 0 3 w4 (h6.below hC4) (sl5 (ps:=[⟨#[101,120,116,101,110,116]⟩,da,x.d]) X4) hz3 (by simp) hlp (by simp) (by omega)).mono ?_
   rintro e w9 ⟨rfl,h9,hB9,hk9⟩
   have P9:=(PB.below hB4).ok hk9 (by omega) (by decide)
   dsimp only
   refine hK.out _ _ ⟨P9.cell 0,P9.cell 1⟩ (fun hHeld=>?_)
   clear hK K
   try simp only [Act.put,lsA,lsB,lsC]
   refine wpAnyH_done (by kernel_rfl) ?_ _
   have hBw9:Below w1.heap.size w1 w9:=hB6.trans ((hC4.mono hz6).trans hB9)
   have h9':Wr w1.heap.size w1.heap.size (L1++exsW (p.ex.take (k+1))) w9:=by rw [hst.out,<-List.append_assoc,hQ0.out,hpt.out];exact h9
   clear hS0 hHeld hSB X4 hB4 hC4 hA4 hB2 hB2' hB9 hk9 P9 PB hA
   go_wp2
   go_roundw
   case rel=>exact ⟨k+1,by omega,by go_num,h9',hBw9⟩
   case measure=>simp [intOf];omega
  ·obtain rfl:k=en:=by omega
   rw [List.take_of_length_le (Nat.le_of_eq hlx.out),hL2.out] at h6
   obtain ⟨wa,hwa⟩:∃ y,y=wr:=⟨_,rfl⟩
   subst hwa
   have y3:wa.cell? ⟨w.heap.size,3,none⟩=some (.slice va vn vc):=(C.below hB6).cell 3
   go_wp2_with fail
   go_loopw [41] (fun ix wr=>∃ (k:Nat),k<=vn∧ix=.int .i64 k∧Wr w1.heap.size w1.heap.size (L2++volsW (p.vs.take k)) wr∧Below w1.heap.size w1 wr) (fun ix _=>vn-(intOf ix).toNat)
   case atStart=>exact ⟨0,Nat.zero_le _,rfl,by simpa [volsW] using h6,hB6⟩
   case round=>
    clear h6 hB6 y3
    obtain ⟨k,hk,rfl,h6,hB6⟩:=hrel
    by_cases hlt:k<vn
    ·obtain ⟨vb,vo,x,pa,pn,pc,rfl,hx,c0,c1,c2,c3,hP,_,_⟩:=cg_ h2 hlt
     obtain ⟨m1,m2,m3,m4⟩:=hN.vs x (List.mem_of_getElem? hx)
     rw [hP.len] at m3
     have hst:Hid (volsW (p.vs.take (k+1))=volsW (p.vs.take k)++volW x):=ba_ hx
     have hlp:=a2_ (f:=volW) hx l3.out
     obtain ⟨Q0,hQ0⟩:∃ P,Hid (L2++volsW (p.vs.take k)=P):=⟨_,rfl⟩
     change (L2++volsW (p.vs.take k)++volW x).length<=1000000 at hlp
     rw [hQ0.out] at h6 hlp
     have g0:=bcell hB6 c0
     have g1:=bcell hB6 c1
     have g2:=bcell hB6 c2
     have g3:=bcell hB6 c3
     have hk1:(k:Int)<vn:=by omega
     have hk2:(0:Int)<=k:=by omega
     have hz6:=hB6.size
     clear hx c0 c1 c2 c3
     go_wp2_with fail
     have hA:Below wr.heap.size wr (wr.alloc (.cells #[.int .i64 x.id,.string x.nm,.bool x.fx,.slice pa pn pc] 128)):=(Below.refl _ _).alloc (Nat.le_refl _) _
     have hzA:=hA.size
     clear g0 g1 g2 g3
     generalize wr.alloc (.cells #[.int .i64 x.id,.string x.nm,.bool x.fx,.slice pa pn pc] 128)=V at *
     have hBV:Below w1.heap.size w1 V:=hB6.trans (hA.mono hz6)
     refine (iY_ w1.heap.size w1.heap.size Q0 x B0 pa pn pc w1 V hP hBV (Nat.le_refl _) (h6.below hA) (aK_ ht1 hBV hg1) hg1 (by omega) m1 m2 m3 m4 hlp).mono ?_
     rintro e w9 ⟨rfl,h9,hB9,_⟩
     have hBw9:=hBV.trans hB9
     have h9':Wr w1.heap.size w1.heap.size (L2++volsW (p.vs.take (k+1))) w9:=by rw [hst.out,<-List.append_assoc,hQ0.out];exact h9
     clear hB9 hBV hA
     go_wp2
     go_roundw
     case rel=>exact ⟨k+1,by omega,by go_num,h9',hBw9⟩
     case measure=>simp [intOf];omega
    ·obtain rfl:k=vn:=by omega
     rw [List.take_of_length_le (Nat.le_of_eq hlv.out),hL3.out] at h6
     obtain ⟨wb,hwb⟩:∃ y,y=wr:=⟨_,rfl⟩
     subst hwb
     have y4:wb.cell? ⟨w.heap.size,4,none⟩=some (.slice ra rn rc):=(C.below hB6).cell 4
     go_wp2_with fail
     go_loopw [51] (fun ix wr=>∃ (k:Nat),k<=rn∧ix=.int .i64 k∧Wr w1.heap.size w1.heap.size (L3++ctsW refW (p.rf.take k)) wr∧Below w1.heap.size w1 wr) (fun ix _=>rn-(intOf ix).toNat)
     case atStart=>exact ⟨0,Nat.zero_le _,rfl,by simpa [ctsW] using h6,hB6⟩
     case round=>
      clear h6 hB6 y4
      obtain ⟨k,hk,rfl,h6,hB6⟩:=hrel
      by_cases hlt:k<rn
      ·obtain ⟨cb,co,x,rfl,hx,c0,c1,c2,c3⟩:=az_ h3 hlt
       obtain ⟨m1,m2,m3⟩:=hN.rf x (List.mem_of_getElem? hx)
       have hst:Hid (ctsW refW (p.rf.take (k+1))=ctsW refW (p.rf.take k)++lineL (ctL refW x)):=ba_ hx
       have hlp:=a2_ (f:=fun c=>lineL (ctL refW c)) hx l4.out
       obtain ⟨Q0,hQ0⟩:∃ P,Hid (L3++ctsW refW (p.rf.take k)=P):=⟨_,rfl⟩
       change (L3++ctsW refW (p.rf.take k)++lineL (ctL refW x)).length<=1000000 at hlp
       rw [hQ0.out] at h6 hlp
       rw [List.length_append] at hlp
       have g0:=bcell hB6 c0
       have g1:=bcell hB6 c1
       have g2:=bcell hB6 c2
       have g3:=bcell hB6 c3
       have hk1:(k:Int)<rn:=by omega
       have hk2:(0:Int)<=k:=by omega
       have hz6:=hB6.size
       clear hx c0 c1 c2 c3
       go_wp2_with fail
       have hA:Below wr.heap.size wr (wr.alloc (.cells #[.int .i64 x.o.a,.int .i64 x.o.v,.string x.o.f,.int .i64 x.n] 134)):=(Below.refl _ _).alloc (Nat.le_refl _) _
       have hzA:=hA.size
       clear g0 g1 g2 g3
       generalize wr.alloc (.cells #[.int .i64 x.o.a,.int .i64 x.o.v,.string x.o.f,.int .i64 x.n] 134)=V at *
       have hBV:Below w1.heap.size w1 V:=hB6.trans (hA.mono hz6)
       refine (dV_ w1.heap.size w1.heap.size Q0 refW x V (h6.below hA) (aK_ ht1 hBV hg1) hg1 (by omega) m1 m2 m3 hlp).mono ?_
       rintro e w9 ⟨rfl,h9,hB9,_⟩
       have hBw9:=hBV.trans hB9
       have h9':Wr w1.heap.size w1.heap.size (L3++ctsW refW (p.rf.take (k+1))) w9:=by rw [hst.out,<-List.append_assoc,hQ0.out];exact h9
       clear hB9 hBV hA
       go_wp2
       go_roundw
       case rel=>exact ⟨k+1,by omega,by go_num,h9',hBw9⟩
       case measure=>simp [intOf];omega
      ·obtain rfl:k=rn:=by omega
       rw [List.take_of_length_le (Nat.le_of_eq hlr.out),hL4.out] at h6
       obtain ⟨wc,hwc⟩:∃ y,y=wr:=⟨_,rfl⟩
       subst hwc
       have y5:wc.cell? ⟨w.heap.size,5,none⟩=some (.slice la ln lc):=(C.below hB6).cell 5
       go_wp2_with fail
       go_loopw [61] (fun ix wr=>∃ (k:Nat),k<=ln∧ix=.int .i64 k∧Wr w1.heap.size w1.heap.size (L4++ctsW lateW (p.lt.take k)) wr∧Below w1.heap.size w1 wr) (fun ix _=>ln-(intOf ix).toNat)
       case atStart=>exact ⟨0,Nat.zero_le _,rfl,by simpa [ctsW] using h6,hB6⟩
       case round=>
        clear h6 hB6 y5
        obtain ⟨k,hk,rfl,h6,hB6⟩:=hrel
        by_cases hlt:k<ln
        ·obtain ⟨cb,co,x,rfl,hx,c0,c1,c2,c3⟩:=az_ h4 hlt
         obtain ⟨m1,m2,m3⟩:=hN.lt x (List.mem_of_getElem? hx)
         have hst:Hid (ctsW lateW (p.lt.take (k+1))=ctsW lateW (p.lt.take k)++lineL (ctL lateW x)):=ba_ hx
         have hlp:=a2_ (f:=fun c=>lineL (ctL lateW c)) hx l5.out
         obtain ⟨Q0,hQ0⟩:∃ P,Hid (L4++ctsW lateW (p.lt.take k)=P):=⟨_,rfl⟩
         change (L4++ctsW lateW (p.lt.take k)++lineL (ctL lateW x)).length<=1000000 at hlp
         rw [hQ0.out] at h6 hlp
         rw [List.length_append] at hlp
         have g0:=bcell hB6 c0
         have g1:=bcell hB6 c1
         have g2:=bcell hB6 c2
         have g3:=bcell hB6 c3
         have hk1:(k:Int)<ln:=by omega
         have hk2:(0:Int)<=k:=by omega
         have hz6:=hB6.size
         clear hx c0 c1 c2 c3
         go_wp2_with fail
         have hA:Below wr.heap.size wr (wr.alloc (.cells #[.int .i64 x.o.a,.int .i64 x.o.v,.string x.o.f,.int .i64 x.n] 134)):=(Below.refl _ _).alloc (Nat.le_refl _) _
         have hzA:=hA.size
         clear g0 g1 g2 g3
         generalize wr.alloc (.cells #[.int .i64 x.o.a,.int .i64 x.o.v,.string x.o.f,.int .i64 x.n] 134)=V at *
         have hBV:Below w1.heap.size w1 V:=hB6.trans (hA.mono hz6)
         refine (dV_ w1.heap.size w1.heap.size Q0 lateW x V (h6.below hA) (aK_ ht1 hBV hg1) hg1 (by omega) m1 m2 m3 hlp).mono ?_
         rintro e w9 ⟨rfl,h9,hB9,_⟩
         have hBw9:=hBV.trans hB9
         have h9':Wr w1.heap.size w1.heap.size (L4++ctsW lateW (p.lt.take (k+1))) w9:=by rw [hst.out,<-List.append_assoc,hQ0.out];exact h9
         clear hB9 hBV hA
         go_wp2
         go_roundw
         case rel=>exact ⟨k+1,by omega,by go_num,h9',hBw9⟩
         case measure=>simp [intOf];omega
        ·obtain rfl:k=ln:=by omega
         rw [List.take_of_length_le (Nat.le_of_eq hll.out),hL5.out] at h6
         go_wp2_with fail
         refine (l6_ w1.heap.size w1.heap.size R wr h6.h hR0).mono ?_
         rintro e w9 ⟨rfl,hB9⟩
         have hfin:=hBw1.trans ((hB6.trans hB9).mono (show w.heap.size<=w1.heap.size by omega))
         go_wp2
         go_returns
         exact ⟨rfl,hfin⟩
theorem gD_ (B0:Nat) (v:Value) (p:Po) (w:World) (h:PoolAt B0 w v p) (hd:DimP p) (hN:poolB p=true->NumO p) (ht:TabP w) (hg:9<=w.heap.size) :
  Calls Tryz.prog 60 #[v] w fun e w'=>e=.returned (.string (textO p))∧Below w.heap.size w w':=by
 cases hp:poolB p
 ·have hO:textO p=⟨#[]⟩:=by unfold textO;rw [hp];rfl
  rw [hO]
  have hPA:=h
  obtain ⟨ea,en,ec,va,vn,vc,ra,rn,rc,la,ln,lc,rfl,_⟩:=h
  go_enter Tryz.func60,Tryz.ntmps60
  go_wp2_with fail
  refine (cj_ B0 _ p _ (hPA.below (by go_grown)) hd).mono ?_
  rintro e w1 ⟨rfl,hB1⟩
  have hBw1:Below w.heap.size w w1:=chain (by go_grown) hB1
  clear hB1 hPA
  rw [hp]
  go_wp2_with fail
  go_returns
  exact ⟨rfl,hBw1⟩
 ·have hO:textO p=⟨(textW p).toArray⟩:=by unfold textO;rw [hp];rfl
  rw [hO]
  exact dA_ B0 v p w h hd hp (hN hp) ht hg
theorem at_ {a b:ByteArray} (h:(a++b).size<=1000000):¬ 9223372036854775807<a.size+b.size∧a.size<=1000000:=by
 rw [cp_] at h;omega
theorem jx_ (b:Bool) (w:World):Calls Tryz.prog 157 #[.bool b] w fun e w'=>e=.returned (.string (flagB b))∧w'=w:=by
 cases b<;>(go_enter Tryz.func157,Tryz.ntmps157;go_wp2;go_returns;exact ⟨rfl,rfl⟩)
theorem oA_ (s word da dv f dn:ByteArray):s++word++⟨#[32]⟩++da++⟨#[32]⟩++dv++⟨#[32]⟩++f++⟨#[32]⟩++dn++⟨#[10]⟩=(⟨(s.data.toList++lineL [word,da,dv,f,dn]).toArray⟩:ByteArray):=by
 refine bZ_ ?_
 unfold lineL
 simp [bb_,bI_,ByteArray.data_append]
theorem hq_ {word:ByteArray} {l:List Ct} {k:Nat} {c:Ct} (h:l[k]?=some c):ctsW word (l.take (k+1))=ctsW word (l.take k)++lineL (ctL word c):=ba_ h
theorem dE_ (word:ByteArray) (a:Option Addr) (n cap:Nat) (l:List Ct) (w:World) (h:CtsAt w a n l) (hn:n<=4194304) (hN:∀ c∈l,Num c.o.a∧Num c.o.v∧Num c.n) (hlen:(ctsW word l).length<=1000000) :
  Calls Tryz.prog 158 #[.string word,.slice a n cap] w fun e w'=>e=.returned (.string ⟨(ctsW word l).toArray⟩)∧Below w.heap.size w w':=by
 have hll:Hid (l.length=n):=h.len
 obtain ⟨R,hR⟩:∃ R,Hid (ctsW word l=R):=⟨_,rfl⟩
 have hlen':=Hid.mk' hlen
 rw [hR.out]
 clear hlen
 go_enter Tryz.func158,Tryz.ntmps158
 go_wp2_with fail
 go_loopw [5,6] (fun s ix wr=>∃ (k:Nat) (o:ByteArray),k<=n∧ix=.int .i64 k∧s=.string o∧Hid (o.data.toList=ctsW word (l.take k))∧Below w.heap.size w wr) (fun _ ix _=>n-(intOf ix).toNat)
 case atStart=>exact ⟨0,.empty,Nat.zero_le _,rfl,rfl,rfl,Below.refl _ _⟩
 case round=>
  obtain ⟨k,o,hk,rfl,rfl,ho,hB⟩:=hrel
  by_cases hlt:k<n
  ·obtain ⟨b,q,c,rfl,hc,c0,c1,c2,c3⟩:=az_ (h.below hB) hlt
   obtain ⟨⟨na1,na2⟩,⟨nv1,nv2⟩,nn1,nn2⟩:=hN c (List.mem_of_getElem? hc)
   have hst:Hid (ctsW word (l.take (k+1))=ctsW word (l.take k)++lineL (ctL word c)):=hq_ hc
   have hlp:=a2_ (P:=[]) (f:=fun c=>lineL (ctL word c)) hc (by simpa [ctsW] using hlen'.out)
   have hol:o.size=(ctsW word (l.take k)).length:=by rw [<-ho.out];rfl
   have hcl:=oA_ o word (decB c.o.a) (decB c.o.v) c.o.f (decB c.n)
   have hcs:=congrArg ByteArray.size hcl
   have hrs:((⟨(o.data.toList++lineL [word,decB c.o.a,decB c.o.v,c.o.f,decB c.n]).toArray⟩:ByteArray)).size<=1000000:=by
    show (o.data.toList++lineL _).toArray.size<=_
    rw [List.size_toArray,ho.out]
    simpa [ctsW,ctL] using hlp
   rw [<-hcs] at hrs
   have hcl':Hid (o++word++⟨#[32]⟩++decB c.o.a++⟨#[32]⟩++decB c.o.v++⟨#[32]⟩++c.o.f++⟨#[32]⟩++decB c.n++⟨#[10]⟩=(⟨(o.data.toList++lineL (ctL word c)).toArray⟩:ByteArray)):=hcl
   obtain ⟨d1,hd1⟩:∃ z,Hid (decB c.o.a=z):=⟨_,rfl⟩
   obtain ⟨d2,hd2⟩:∃ z,Hid (decB c.o.v=z):=⟨_,rfl⟩
   obtain ⟨d3,hd3⟩:∃ z,Hid (decB c.n=z):=⟨_,rfl⟩
   have k1:∀ u:World,Calls Tryz.prog 122 #[.int .i64 c.o.a] u fun e w'=>e=.returned (.string d1)∧Below u.heap.size u w':=fun u=>by rw [<-hd1.out];exact aH_ c.o.a u na1 na2
   have k2:∀ u:World,Calls Tryz.prog 122 #[.int .i64 c.o.v] u fun e w'=>e=.returned (.string d2)∧Below u.heap.size u w':=fun u=>by rw [<-hd2.out];exact aH_ c.o.v u nv1 nv2
   have k3:∀ u:World,Calls Tryz.prog 122 #[.int .i64 c.n] u fun e w'=>e=.returned (.string d3)∧Below u.heap.size u w':=fun u=>by rw [<-hd3.out];exact aH_ c.n u nn1 nn2
   rw [hd1.out,hd2.out,hd3.out] at hrs
   unfold Hid at hcl'
   rw [hd1.out,hd2.out,hd3.out] at hcl'
   obtain ⟨o',ho'⟩:∃ z,Hid (z=(⟨(o.data.toList++lineL (ctL word c)).toArray⟩:ByteArray)):=⟨_,rfl⟩
   replace hcl':Hid (_=o'):=hcl'.trans ho'.out.symm
   obtain ⟨ff,hff⟩:∃ z,c.o.f=z:=⟨_,rfl⟩
   rw [hff] at hrs hcl' c2
   clear hcl hcs hlp hol hst
   replace hrs:(o++word++⟨#[32]⟩++d1++⟨#[32]⟩++d2++⟨#[32]⟩++ff++⟨#[32]⟩++d3++⟨#[10]⟩).size<=1000000:=hrs
   obtain ⟨e10,hrs⟩:=at_ hrs
   obtain ⟨e9,hrs⟩:=at_ hrs
   obtain ⟨e8,hrs⟩:=at_ hrs
   obtain ⟨e7,hrs⟩:=at_ hrs
   obtain ⟨e6,hrs⟩:=at_ hrs
   obtain ⟨e5,hrs⟩:=at_ hrs
   obtain ⟨e4,hrs⟩:=at_ hrs
   obtain ⟨e3,hrs⟩:=at_ hrs
   obtain ⟨e2,hrs⟩:=at_ hrs
   obtain ⟨e1,hrs⟩:=at_ hrs
   have hlt':(k:Int)<n:=by omega
   have q0:=gcell c0
   have q1:=gcell c1
   have q2:=gcell c2
   have q3:=gcell c3
   go_wp2_with fail
   refine aa_ (by kernel_rfl) (by kernel_rfl) ?_
   have hne:=aq_ wr
   iterate 11 (go_big_quiet_step (first | (go_at_call 122;exact ag_ (k1 _))))
   iterate 9 (go_big_quiet_step (first | (go_at_call 122;exact ag_ (k2 _))))
   iterate 19 (go_big_quiet_step (first | (go_at_call 122;exact ag_ (k3 _))))
   refine wpQuiet_nil ?_
   intro w2 hx2
   have hB2:=chain hB (ae_ hx2)
   clear hx2
   go_wp2
   go_roundw
   case rel=>
    refine ⟨k+1,_,by omega,by go_num,rfl,?_,hB2⟩
    show _=_
    rw [hcl'.out,ho'.out,hq_ hc,<-ho.out]
   case measure=>simp [intOf];omega
  ·obtain rfl:k=n:=by omega
   have hlt':¬ (k:Int)<k:=by omega
   go_wp2
   go_returns
   rw [List.take_of_length_le (by rw [hll.out];exact Nat.le_refl _),hR.out] at ho
   have hoR:o=⟨R.toArray⟩:=bZ_ (by simpa using ho.out)
   subst hoR
   exact ⟨rfl,hB⟩
end Go.Proofs.YtigldeccfpkdmaaGreatDoor
