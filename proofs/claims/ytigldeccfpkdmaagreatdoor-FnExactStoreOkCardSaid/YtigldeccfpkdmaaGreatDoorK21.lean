/- The text of a pool, by the model. PoolText, by the model. A right pool's numbers and texts are small. -/
import Derived.Test.YtigldeccfpkdmaaGreatDoorK20
import Derived.Test.YtigldeccfpkdmaaGreatDoorK15
namespace Go.Proofs.YtigldeccfpkdmaaGreatDoor
open Go Go.RowKit Go.BigFrame Go.Shelf
set_option maxHeartbeats 20000000
set_option maxRecDepth 100000
theorem dr_ {o n:ByteArray} {W P:List UInt8} (hn:n=⟨(o.data.toList++W).toArray⟩) (ho:o.data.toList=P):n.data.toList=P++W:=by
 rw [hn,<-ho]
theorem eZ_ (B0:Nat) (v:Value) (p:Po) (w:World) (h:PoolAt B0 w v p) (hd:DimP p) (hN:NumO p) :
  Calls Tryz.prog 92 #[v] w fun e w'=>e=.returned (.string ⟨(textW p).toArray⟩)∧Below w.heap.size w w':=by
 obtain ⟨ea,en,ec,va,vn,vc,ra,rn,rc,la,ln,lc,rfl,⟨h1,_⟩,⟨h2,_⟩,⟨h3,_⟩,h4,_⟩:=h
 obtain ⟨R,hR⟩:∃ R,Hid (textW p=R):=⟨_,rfl⟩
 have hlenT:=hN.len
 rw [hR.out] at hlenT
 rw [hR.out]
 obtain ⟨L1,hL1⟩:∃ x,Hid (lineL (hdW p)=x):=⟨_,rfl⟩
 obtain ⟨L2,hL2⟩:∃ x,Hid (L1++exsW p.ex=x):=⟨_,rfl⟩
 obtain ⟨L3,hL3⟩:∃ x,Hid (L2++volsW p.vs=x):=⟨_,rfl⟩
 obtain ⟨L4,hL4⟩:∃ x,Hid (L3++ctsW refW p.rf=x):=⟨_,rfl⟩
 have hL5:Hid (L4++ctsW lateW p.lt=R):=by show _=_;rw [<-hR.out,<-hL4.out,<-hL3.out,<-hL2.out,<-hL1.out];rfl
 have l5:Hid ((L4++ctsW lateW p.lt).length<=1000000):=by show _<=_;rw [hL5.out];exact hlenT
 have l4:Hid ((L3++ctsW refW p.rf).length<=1000000):=by have:=l5.out;rw [List.length_append] at this;show _<=_;rw [hL4.out];omega
 have l3:Hid ((L2++volsW p.vs).length<=1000000):=by have:=l4.out;rw [List.length_append] at this;show _<=_;rw [hL3.out];omega
 have l2:Hid ((L1++exsW p.ex).length<=1000000):=by have:=l3.out;rw [List.length_append] at this;show _<=_;rw [hL2.out];omega
 have l1:Hid ((lineL (hdW p)).length<=1000000):=by have:=l2.out;rw [List.length_append,<-hL1.out] at this;show _<=_;omega
 have hlx:Hid (p.ex.length=en):=h1.len
 have hlv:Hid (p.vs.length=vn):=h2.len
 have hn1:en<=4194304:=by rw [<-h1.len];exact hd.1
 have hn2:vn<=4194304:=by rw [<-h2.len];exact hd.2.2.1
 have hn3:rn<=4194304:=by rw [<-h3.len];exact hd.2.2.2.2.1
 have hn4:ln<=4194304:=by rw [<-h4.len];exact hd.2.2.2.2.2.2.1
 obtain ⟨sz1,sz2⟩:=hN.size
 obtain ⟨nx1,nx2⟩:=hN.next
 obtain ⟨ds,hds⟩:∃ zz,Hid (decB p.size=zz):=⟨_,rfl⟩
 have kds:∀ u:World,Calls Tryz.prog 122 #[.int .i64 p.size] u fun e w'=>e=.returned (.string ds)∧Below u.heap.size u w':=fun u=>by rw [<-hds.out];exact aH_ p.size u sz1 sz2
 obtain ⟨dn,hdn⟩:∃ zz,Hid (decB p.next=zz):=⟨_,rfl⟩
 have kdn:∀ u:World,Calls Tryz.prog 122 #[.int .i64 p.next] u fun e w'=>e=.returned (.string dn)∧Below u.heap.size u w':=fun u=>by rw [<-hdn.out];exact aH_ p.next u nx1 nx2
 obtain ⟨s0,hs0⟩:∃ z,Hid (z=(⟨#[112,111,111,108,32]⟩++ds++⟨#[32]⟩++dn++⟨#[10]⟩:ByteArray)):=⟨_,rfl⟩
 have hs0L:Hid (s0.data.toList=L1):=by
  show _=_
  rw [hs0.out,<-hL1.out]
  unfold hdW lineL
  rw [hds.out,hdn.out]
  simp [bb_,bI_,ByteArray.data_append]
 have t0:((⟨#[112,111,111,108,32]⟩:ByteArray)++ds++⟨#[32]⟩++dn++⟨#[10]⟩).size<=1000000:=by
  rw [<-hs0.out]
  show s0.data.size<=_
  rw [<-Array.length_toList,hs0L.out,<-hL1.out]
  exact l1.out
 obtain ⟨e04,t0⟩:=at_ t0
 obtain ⟨e03,t0⟩:=at_ t0
 obtain ⟨e02,t0⟩:=at_ t0
 obtain ⟨e01,_⟩:=at_ t0
 go_enter Tryz.func92,Tryz.ntmps92
 have C:=Blk.new w #[.int .i64 p.size,.int .i64 p.next,.slice ea en ec,.slice va vn vc,.slice ra rn rc,.slice la ln lc] 26
 have hBw:Below w.heap.size w (w.alloc (.cells #[.int .i64 p.size,.int .i64 p.next,.slice ea en ec,.slice va vn vc,.slice ra rn rc,.slice la ln lc] 26)):=by go_grown
 go_wp2_with fail
 replace h1:=h1.below hBw
 replace h2:=h2.below hBw
 replace h3:=h3.below hBw
 replace h4:=h4.below hBw
 generalize w.alloc (.cells #[.int .i64 p.size,.int .i64 p.next,.slice ea en ec,.slice va vn vc,.slice ra rn rc,.slice la ln lc] 26)=W at *
 have q0:=gcell (C.cell 0)
 have q1:=gcell (C.cell 1)
 refine aa_ (by kernel_rfl) (by kernel_rfl) ?_
 have hne:=aq_ W
 iterate 3 (go_big_quiet_step (first | (go_at_call 122;exact ag_ (kds _))))
 iterate 5 (go_big_quiet_step (first | (go_at_call 122;exact ag_ (kdn _))))
 iterate 3 (go_big_quiet_step (fail))
 refine wpQuiet_nil ?_
 intro w1 hx1
 have hB1:=ae_ hx1
 rw [<-hs0.out]
 clear hx1 q0 q1 e01 e02 e03 e04 t0
 go_wp2_with fail
 go_loopw [3,4] (fun s ix wr=>∃ (k:Nat) (o:ByteArray),k<=en∧ix=.int .i64 k∧s=.string o∧Hid (o.data.toList=L1++exsW (p.ex.take k))∧Below W.heap.size W wr) (fun _ ix _=>en-(intOf ix).toNat)
 case atStart=>exact ⟨0,s0,Nat.zero_le _,rfl,rfl,by show _=_;rw [hs0L.out];simp [exsW],hB1⟩
 case round=>
  clear hB1 hs0L hs0 kds kdn
  obtain ⟨k,o,hk,rfl,rfl,ho,hB⟩:=hrel
  have y2:=(C.below hB).cell 2
  by_cases hlt:k<en
  ·obtain ⟨eb,eo,x,rfl,hx,c0,c1⟩:=bp_ (h1.below hB) hlt
   obtain ⟨na1,na2⟩:=hN.ex x (List.mem_of_getElem? hx)
   have hst:Hid (exsW (p.ex.take (k+1))=exsW (p.ex.take k)++lineL (exW x)):=ba_ hx
   have hlp:=a2_ (f:=fun e=>lineL (exW e)) hx l2.out
   change (L1++exsW (p.ex.take k)++lineL (exW x)).length<=1000000 at hlp
   rw [<-ho.out] at hlp
   obtain ⟨da,hda⟩:∃ zz,Hid (decB x.a=zz):=⟨_,rfl⟩
   have kda:∀ u:World,Calls Tryz.prog 122 #[.int .i64 x.a] u fun e w'=>e=.returned (.string da)∧Below u.heap.size u w':=fun u=>by rw [<-hda.out];exact aH_ x.a u na1 na2
   obtain ⟨xd,hxd⟩:∃ z,Hid (x.d=z):=⟨_,rfl⟩
   unfold exW at hlp
   rw [hda.out,hxd.out] at hlp
   rw [hxd.out] at c1
   obtain ⟨nA,hnA⟩:∃ z,Hid (z=(⟨(o.data.toList++lineL [⟨#[101,120,116,101,110,116]⟩,da,xd]).toArray⟩:ByteArray)):=⟨_,rfl⟩
   have hcA:Hid (o++⟨#[101,120,116,101,110,116,32]⟩++da++⟨#[32]⟩++xd++⟨#[10]⟩=nA):=by show _=_;rw [hnA.out];refine bZ_ ?_;unfold lineL;simp [bb_,bI_,ByteArray.data_append]
   have tA:(o++⟨#[101,120,116,101,110,116,32]⟩++da++⟨#[32]⟩++xd++⟨#[10]⟩).size<=1000000:=by rw [hcA.out,hnA.out];show (o.data.toList++lineL [⟨#[101,120,116,101,110,116]⟩,da,xd]).toArray.size<=_;rw [List.size_toArray];exact hlp
   obtain ⟨eA5,tA⟩:=at_ tA
   obtain ⟨eA4,tA⟩:=at_ tA
   obtain ⟨eA3,tA⟩:=at_ tA
   obtain ⟨eA2,tA⟩:=at_ tA
   obtain ⟨eA1,tA⟩:=at_ tA
   have hlt':(k:Int)<en:=by omega
   have q0:=gcell c0
   have q1:=gcell c1
   have q2:=gcell y2
   clear hlp c0 c1 tA h2 h3 h4
   go_wp2_with fail
   refine aa_ (by kernel_rfl) (by kernel_rfl) ?_
   have hne:=aq_ wr
   iterate 9 (go_big_quiet_step (first | (go_at_call 122;exact ag_ (kda _))))
   iterate 11 (go_big_quiet_step (fail))
   refine wpQuiet_nil ?_
   intro w2 hx2
   have hB2:=chain hB (ae_ hx2)
   clear hx2
   rw [hcA.out]
   go_wp2
   go_roundw
   case rel=>
    refine ⟨k+1,nA,by omega,by go_num,rfl,(dr_ hnA.out ho.out).trans ?_,hB2⟩
    rw [hst.out,<-List.append_assoc]
    unfold exW
    rw [hda.out,hxd.out]
   case measure=>simp [intOf];omega
  ·have hk0:¬ (k:Int)<en:=by omega
   have hke:Hid (k=en):=by show _=_;omega
   replace ho:Hid (o.data.toList=L2):=by
    have:=ho.out
    rw [List.take_of_length_le (by rw [hlx.out,hke.out];exact Nat.le_refl _),hL2.out] at this
    exact this
   go_wp2_with fail
   clear hk0 hke hlt hk y2
   go_loopw [3,5] (fun s ix wr=>∃ (k:Nat) (o:ByteArray),k<=vn∧ix=.int .i64 k∧s=.string o∧Hid (o.data.toList=L2++volsW (p.vs.take k))∧Below W.heap.size W wr) (fun _ ix _=>vn-(intOf ix).toNat)
   case atStart=>exact ⟨0,o,Nat.zero_le _,rfl,rfl,by show _=_;rw [ho.out];simp [volsW],hB⟩
   case round=>
    clear ho hB h1
    obtain ⟨k2,o2,hk,rfl,rfl,ho,hB⟩:=hrel
    have y3:=(C.below hB).cell 3
    by_cases hlt:k2<vn
    ·obtain ⟨vb,vo,x,pa,pn,pc,rfl,hx,c0,c1,c2,c3,hI,_,_⟩:=cg_ (h2.below hB) hlt
     obtain ⟨⟨na1,na2⟩,hnP,hnI,hnQ⟩:=hN.vs x (List.mem_of_getElem? hx)
     have hst:Hid (volsW (p.vs.take (k2+1))=volsW (p.vs.take k2)++volW x):=ba_ hx
     have hlp:=a2_ (f:=volW) hx l3.out
     change (L2++volsW (p.vs.take k2)++volW x).length<=1000000 at hlp
     have hly:Hid (x.its.length=pn):=hI.len
     have hny:pn<=4194304:=by rw [<-hI.len];exact hnI
     obtain ⟨da,hda⟩:∃ zz,Hid (decB x.id=zz):=⟨_,rfl⟩
     have kda:∀ u:World,Calls Tryz.prog 122 #[.int .i64 x.id] u fun e w'=>e=.returned (.string da)∧Below u.heap.size u w':=fun u=>by rw [<-hda.out];exact aH_ x.id u na1 na2
     obtain ⟨xn,hxn⟩:∃ z,Hid (x.nm=z):=⟨_,rfl⟩
     obtain ⟨xf,hxf⟩:∃ z,Hid (x.fx=z):=⟨_,rfl⟩
     obtain ⟨fl,hfl⟩:∃ z,Hid (flagB xf=z):=⟨_,rfl⟩
     have kfl:∀ u:World,Calls Tryz.prog 157 #[.bool xf] u fun e w'=>e=.returned (.string fl)∧w'=u:=fun u=>by rw [<-hfl.out];exact jx_ xf u
     rw [hxn.out] at c1
     rw [hxf.out] at c2
     obtain ⟨Lv,hLv⟩:∃ z,Hid (L2++volsW (p.vs.take k2)++lineL (voW x)=z):=⟨_,rfl⟩
     have hvx:Hid (voW x=[⟨#[118,111,108,117,109,101]⟩,da,xn,fl]):=by show _=_;unfold voW;rw [hda.out,hxn.out,hxf.out,hfl.out]
     have hst2:Hid (L2++volsW (p.vs.take (k2+1))=Lv++itsW x.its):=by show _=_;rw [hst.out,<-hLv.out];unfold volW;simp
     have hlv2:Hid ((Lv++itsW x.its).length<=1000000):=by show _<=_;rw [<-hst2.out,hst.out,<-List.append_assoc];exact hlp
     have hlp2:(o2.data.toList++lineL [⟨#[118,111,108,117,109,101]⟩,da,xn,fl]).length<=1000000:=by
      have:=hlv2.out
      rw [List.length_append,<-hLv.out,hvx.out,<-ho.out] at this
      omega
     clear hlp
     obtain ⟨nB,hnB⟩:∃ z,Hid (z=(⟨(o2.data.toList++lineL [⟨#[118,111,108,117,109,101]⟩,da,xn,fl]).toArray⟩:ByteArray)):=⟨_,rfl⟩
     have hcB:Hid (o2++⟨#[118,111,108,117,109,101,32]⟩++da++⟨#[32]⟩++xn++⟨#[32]⟩++fl++⟨#[10]⟩=nB):=by show _=_;rw [hnB.out];refine bZ_ ?_;unfold lineL;simp [bb_,bI_,ByteArray.data_append]
     have tB:(o2++⟨#[118,111,108,117,109,101,32]⟩++da++⟨#[32]⟩++xn++⟨#[32]⟩++fl++⟨#[10]⟩).size<=1000000:=by rw [hcB.out,hnB.out];show (o2.data.toList++lineL [⟨#[118,111,108,117,109,101]⟩,da,xn,fl]).toArray.size<=_;rw [List.size_toArray];exact hlp2
     obtain ⟨eB7,tB⟩:=at_ tB
     obtain ⟨eB6,tB⟩:=at_ tB
     obtain ⟨eB5,tB⟩:=at_ tB
     obtain ⟨eB4,tB⟩:=at_ tB
     obtain ⟨eB3,tB⟩:=at_ tB
     obtain ⟨eB2,tB⟩:=at_ tB
     obtain ⟨eB1,tB⟩:=at_ tB
     have hlt':(k2:Int)<vn:=by omega
     clear hlp2 tB hst
     go_wp2_with fail
     have D:=Blk.new wr #[.int .i64 x.id,.string xn,.bool xf,.slice pa pn pc] 128
     have hBV:Below W.heap.size W (wr.alloc (.cells #[.int .i64 x.id,.string xn,.bool xf,.slice pa pn pc] 128)):=hB.alloc hB.size _
     have hI1:=hI.below (hb:=(Below.refl _ wr).alloc (Nat.le_refl _) (.cells #[.int .i64 x.id,.string xn,.bool xf,.slice pa pn pc] 128))
     clear c0 c1 c2 c3 y3 hI
     generalize wr.alloc (.cells #[.int .i64 x.id,.string xn,.bool xf,.slice pa pn pc] 128)=V at *
     have q0:=gcell (D.cell 0)
     have q1:=gcell (D.cell 1)
     have q2:=gcell (D.cell 2)
     refine aa_ (by kernel_rfl) (by kernel_rfl) ?_
     have hne:=aq_ V
     iterate 5 (go_big_quiet_step (first | (go_at_call 122;exact ag_ (kda _))))
     iterate 9 (go_big_quiet_step (first | (go_at_call 157;exact ah_ (kfl _))))
     iterate 3 (go_big_quiet_step (fail))
     refine wpQuiet_nil ?_
     intro w2 hx2
     have hB2:=ae_ hx2
     clear hx2 q0 q1 q2 kda kfl
     rw [hcB.out]
     have hoB:Hid (nB.data.toList=Lv):=(dr_ hnB.out ho.out).trans (by rw [<-hLv.out,hvx.out])
     clear hnB hcB hvx hLv hda hxn hxf hfl ho hB
     go_wp2_with fail
     go_loopw [3,7] (fun s ix wr=>∃ (k:Nat) (o:ByteArray),k<=pn∧ix=.int .i64 k∧s=.string o∧Hid (o.data.toList=Lv++itsW (x.its.take k))∧Below V.heap.size V wr) (fun _ ix _=>pn-(intOf ix).toNat)
     case atStart=>exact ⟨0,nB,Nat.zero_le _,rfl,rfl,by show _=_;rw [hoB.out];simp [itsW],hB2⟩
     case round=>
      clear hoB hB2
      obtain ⟨j,o3,hj,rfl,rfl,ho,hB⟩:=hrel
      obtain ⟨wj,rfl⟩:∃ z,z=wr:=⟨_,rfl⟩
      have y3:=(D.below hB).cell 3
      by_cases hltj:j<pn
      ·obtain ⟨ib,io,y,ga,gn,gc,rfl,hy,c0,c1,hP,_,_,_⟩:=bt_ (hI1.below hB) hltj
       have hym:=List.mem_of_getElem? hy
       have hnp:=hnP y hym
       have hgl:Hid (y.ps.length=gn):=hP.len
       have hgn:gn<=4194304:=by rw [<-hP.len];exact hnQ y hym
       have hst:Hid (itsW (x.its.take (j+1))=itsW (x.its.take j)++itW y):=dm_ hy
       have hlp:=a2_ (f:=itW) hy hlv2.out
       change (Lv++itsW (x.its.take j)++itW y).length<=1000000 at hlp
       obtain ⟨yn,hyn⟩:∃ z,Hid (y.nm=z):=⟨_,rfl⟩
       rw [hyn.out] at c0
       obtain ⟨Lf,hLf⟩:∃ z,Hid (Lv++itsW (x.its.take j)++lineL [⟨#[102,105,108,101]⟩,yn]=z):=⟨_,rfl⟩
       have hst3:Hid (Lv++itsW (x.its.take (j+1))=Lf++partsW y.ps):=by show _=_;rw [hst.out,<-hLf.out];unfold itW;rw [hyn.out];simp
       have hlf:Hid ((Lf++partsW y.ps).length<=1000000):=by show _<=_;rw [<-hst3.out,hst.out,<-List.append_assoc];exact hlp
       have hlp2:(o3.data.toList++lineL [⟨#[102,105,108,101]⟩,yn]).length<=1000000:=by
        have:=hlf.out
        rw [List.length_append,<-hLf.out,<-ho.out] at this
        omega
       clear hlp
       obtain ⟨nF,hnF⟩:∃ z,Hid (z=(⟨(o3.data.toList++lineL [⟨#[102,105,108,101]⟩,yn]).toArray⟩:ByteArray)):=⟨_,rfl⟩
       have hcF:Hid (o3++⟨#[102,105,108,101,32]⟩++yn++⟨#[10]⟩=nF):=by show _=_;rw [hnF.out];refine bZ_ ?_;unfold lineL;simp [bb_,bI_,ByteArray.data_append]
       have tF:(o3++⟨#[102,105,108,101,32]⟩++yn++⟨#[10]⟩).size<=1000000:=by rw [hcF.out,hnF.out];show (o3.data.toList++lineL [⟨#[102,105,108,101]⟩,yn]).toArray.size<=_;rw [List.size_toArray];exact hlp2
       obtain ⟨eF3,tF⟩:=at_ tF
       obtain ⟨eF2,tF⟩:=at_ tF
       obtain ⟨eF1,tF⟩:=at_ tF
       have hltj':(j:Int)<pn:=by omega
       clear hlp2 tF hst
       have hoF:Hid (nF.data.toList=Lf):=(dr_ hnF.out ho.out).trans hLf.out
       go_wp2_with fail
       rw [hcF.out]
       clear hcF hnF hLf ho hyn eF1 eF2 eF3
       go_loopw [3,8] (fun s ix wr=>∃ (m:Nat) (o:ByteArray),m<=gn∧ix=.int .i64 m∧s=.string o∧Hid (o.data.toList=Lf++partsW (y.ps.take m))∧Below wj.heap.size wj wr) (fun _ ix _=>gn-(intOf ix).toNat)
       case atStart=>exact ⟨0,nF,Nat.zero_le _,rfl,rfl,by show _=_;rw [hoF.out];simp [partsW],Below.refl _ _⟩
       case round=>
        clear hoF
        obtain ⟨m,o4,hm,rfl,rfl,ho,hB4⟩:=hrel
        have c1':=bcell hB4 c1
        have y3':=bcell hB4 y3
        by_cases hltm:m<gn
        ·obtain ⟨gb,go,z,rfl,hz,d0,d1,d2⟩:=bc_ (hP.below hB4) hltm
         obtain ⟨⟨za1,za2⟩,⟨zf1,zf2⟩,zn1,zn2⟩:=hnp z (List.mem_of_getElem? hz)
         have hst:Hid (partsW (y.ps.take (m+1))=partsW (y.ps.take m)++lineL (ptW z)):=ch_ hz
         have hlp:=a2_ (f:=fun q=>lineL (ptW q)) hz hlf.out
         change (Lf++partsW (y.ps.take m)++lineL (ptW z)).length<=1000000 at hlp
         rw [<-ho.out] at hlp
         obtain ⟨pa1,hpa1⟩:∃ zz,Hid (decB z.a=zz):=⟨_,rfl⟩
         have kpa1:∀ u:World,Calls Tryz.prog 122 #[.int .i64 z.a] u fun e w'=>e=.returned (.string pa1)∧Below u.heap.size u w':=fun u=>by rw [<-hpa1.out];exact aH_ z.a u za1 za2
         obtain ⟨pf1,hpf1⟩:∃ zz,Hid (decB z.f=zz):=⟨_,rfl⟩
         have kpf1:∀ u:World,Calls Tryz.prog 122 #[.int .i64 z.f] u fun e w'=>e=.returned (.string pf1)∧Below u.heap.size u w':=fun u=>by rw [<-hpf1.out];exact aH_ z.f u zf1 zf2
         obtain ⟨pn1,hpn1⟩:∃ zz,Hid (decB z.n=zz):=⟨_,rfl⟩
         have kpn1:∀ u:World,Calls Tryz.prog 122 #[.int .i64 z.n] u fun e w'=>e=.returned (.string pn1)∧Below u.heap.size u w':=fun u=>by rw [<-hpn1.out];exact aH_ z.n u zn1 zn2
         have hpz:Hid (ptW z=[⟨#[112,97,114,116]⟩,pa1,pf1,pn1]):=by show _=_;unfold ptW;rw [hpa1.out,hpf1.out,hpn1.out]
         rw [hpz.out] at hlp
         obtain ⟨nG,hnG⟩:∃ z,Hid (z=(⟨(o4.data.toList++lineL [⟨#[112,97,114,116]⟩,pa1,pf1,pn1]).toArray⟩:ByteArray)):=⟨_,rfl⟩
         have hcG:Hid (o4++⟨#[112,97,114,116,32]⟩++pa1++⟨#[32]⟩++pf1++⟨#[32]⟩++pn1++⟨#[10]⟩=nG):=by show _=_;rw [hnG.out];refine bZ_ ?_;unfold lineL;simp [bb_,bI_,ByteArray.data_append]
         have tG:(o4++⟨#[112,97,114,116,32]⟩++pa1++⟨#[32]⟩++pf1++⟨#[32]⟩++pn1++⟨#[10]⟩).size<=1000000:=by rw [hcG.out,hnG.out];show (o4.data.toList++lineL [⟨#[112,97,114,116]⟩,pa1,pf1,pn1]).toArray.size<=_;rw [List.size_toArray];exact hlp
         obtain ⟨eG7,tG⟩:=at_ tG
         obtain ⟨eG6,tG⟩:=at_ tG
         obtain ⟨eG5,tG⟩:=at_ tG
         obtain ⟨eG4,tG⟩:=at_ tG
         obtain ⟨eG3,tG⟩:=at_ tG
         obtain ⟨eG2,tG⟩:=at_ tG
         obtain ⟨eG1,tG⟩:=at_ tG
         have hltm':(m:Int)<gn:=by omega
         clear hlp tG
         go_wp2_with fail
         have E:=Blk.new wr #[.int .i64 z.a,.int .i64 z.f,.int .i64 z.n] 141
         have hBE:Below wj.heap.size wj (wr.alloc (.cells #[.int .i64 z.a,.int .i64 z.f,.int .i64 z.n] 141)):=hB4.alloc hB4.size _
         clear d0 d1 d2 c1' y3'
         generalize wr.alloc (.cells #[.int .i64 z.a,.int .i64 z.f,.int .i64 z.n] 141)=V2 at *
         have q0:=gcell (E.cell 0)
         have q1:=gcell (E.cell 1)
         have q2:=gcell (E.cell 2)
         refine aa_ (by kernel_rfl) (by kernel_rfl) ?_
         have hne:=aq_ V2
         iterate 5 (go_big_quiet_step (first | (go_at_call 122;exact ag_ (kpa1 _))))
         iterate 5 (go_big_quiet_step (first | (go_at_call 122;exact ag_ (kpf1 _))))
         iterate 5 (go_big_quiet_step (first | (go_at_call 122;exact ag_ (kpn1 _))))
         iterate 3 (go_big_quiet_step (fail))
         refine wpQuiet_nil ?_
         intro w5 hx5
         have hB5:=chain hBE (ae_ hx5)
         clear hx5 q0 q1 q2
         rw [hcG.out]
         go_wp2
         go_roundw
         case rel=>
          refine ⟨m+1,nG,by omega,by go_num,rfl,(dr_ hnG.out ho.out).trans ?_,hB5⟩
          rw [hst.out,<-List.append_assoc,hpz.out]
         case measure=>simp [intOf];omega
        ·have hm0:¬ (m:Int)<gn:=by omega
         have hme:Hid (m=gn):=by show _=_;omega
         replace ho:Hid (o4.data.toList=Lf++partsW y.ps):=by
          have:=ho.out
          rw [List.take_of_length_le (by rw [hgl.out,hme.out];exact Nat.le_refl _)] at this
          exact this
         go_wp2
         go_roundw
         case rel=>exact ⟨j+1,o4,by omega,by go_num,rfl,ho.out.trans hst3.out.symm,chain hB hB4⟩
         case measure=>simp [intOf];omega
      ·have hj0:¬ (j:Int)<pn:=by omega
       have hje:Hid (j=pn):=by show _=_;omega
       replace ho:Hid (o3.data.toList=Lv++itsW x.its):=by
        have:=ho.out
        rw [List.take_of_length_le (by rw [hly.out,hje.out];exact Nat.le_refl _)] at this
        exact this
       go_wp2
       go_roundw
       case rel=>exact ⟨k2+1,o3,by omega,by go_num,rfl,ho.out.trans hst2.out.symm,chain hBV hB⟩
       case measure=>simp [intOf];omega
    ·have hk0:¬ (k2:Int)<vn:=by omega
     have hke:Hid (k2=vn):=by show _=_;omega
     replace ho:Hid (o2.data.toList=L3):=by
      have:=ho.out
      rw [List.take_of_length_le (by rw [hlv.out,hke.out];exact Nat.le_refl _),hL3.out] at this
      exact this
     obtain ⟨T1,hT1⟩:∃ z:ByteArray,Hid (⟨(ctsW refW p.rf).toArray⟩=z):=⟨_,rfl⟩
     obtain ⟨T2,hT2⟩:∃ z:ByteArray,Hid (⟨(ctsW lateW p.lt).toArray⟩=z):=⟨_,rfl⟩
     have hl1:(ctsW refW p.rf).length<=1000000:=by have:=l4.out;rw [List.length_append] at this;omega
     have hl2:(ctsW lateW p.lt).length<=1000000:=by have:=l5.out;rw [List.length_append] at this;omega
     have r1:∀ u:World,Below wr.heap.size wr u->Calls Tryz.prog 158 #[.string ⟨#[114,101,102]⟩,.slice ra rn rc] u fun e w'=>e=.returned (.string T1)∧Below u.heap.size u w':=fun u hu=>by rw [<-hT1.out];exact dE_ refW ra rn rc p.rf u ((h3.below hB).below hu) hn3 hN.rf hl1
     have r2:∀ u:World,Below wr.heap.size wr u->Calls Tryz.prog 158 #[.string ⟨#[108,97,116,101]⟩,.slice la ln lc] u fun e w'=>e=.returned (.string T2)∧Below u.heap.size u w':=fun u hu=>by rw [<-hT2.out];exact dE_ lateW la ln lc p.lt u ((h4.below hB).below hu) hn4 hN.lt hl2
     have hTR:Hid (o2++T1++T2=⟨R.toArray⟩):=by
      show _=_
      rw [<-hT1.out,<-hT2.out]
      refine bZ_ ?_
      rw [<-hL5.out,<-hL4.out,<-ho.out]
      simp [ByteArray.data_append]
     have tR:(o2++T1++T2).size<=1000000:=by rw [hTR.out];show R.toArray.size<=_;rw [List.size_toArray];exact hlenT
     obtain ⟨e2,tR⟩:=at_ tR
     obtain ⟨e1,tR⟩:=at_ tR
     have q4:=gcell ((C.below hB).cell 4)
     have q5:=gcell ((C.below hB).cell 5)
     clear hke tR hl1 hl2
     go_wp2_with fail
     refine aa_ (by kernel_rfl) (by kernel_rfl) ?_
     have hne:=aq_ wr
     iterate 4 (go_big_quiet_step (first | (go_at_call 158;exact ag_ (r1 _ (Grw.h _)))))
     iterate 4 (go_big_quiet_step (first | (go_at_call 158;exact ag_ (r2 _ (Grw.h _)))))
     iterate 2 (go_big_quiet_step (fail))
     refine wpQuiet_nil ?_
     intro w6 hx6
     have hB6:=chain (chain hBw hB) (ae_ hx6)
     clear hx6
     rw [hTR.out]
     go_wp2
     go_returns
     exact ⟨rfl,hB6⟩
theorem dF_ (B0:Nat) (hB0:0<B0) (v:Value) (p:Po) (w:World) (h:PoolAt B0 w v p) (hd:DimP p) (hN:poolB p=true->NumO p) :
  Calls Tryz.prog 37 #[v] w fun e w'=>e=.returned (.string (textO p))∧Below w.heap.size w w':=by
 have hPA:=h
 obtain ⟨ea,en,ec,va,vn,vc,ra,rn,rc,la,ln,lc,rfl,_⟩:=h
 have C:=Blk.new w #[.int .i64 p.size,.int .i64 p.next,.slice ea en ec,.slice va vn vc,.slice ra rn rc,.slice la ln lc] 26
 cases hp:poolB p
 ·have hO:textO p=⟨#[]⟩:=by unfold textO;rw [hp];rfl
  rw [hO]
  go_enter Tryz.func37,Tryz.ntmps37
  go_wp2_with fail
  refine (bJ_ B0 hB0 _ p _ (hPA.below (by go_grown)) hd).mono ?_
  rintro e w1 ⟨rfl,hB1⟩
  have hBw1:Below w.heap.size w w1:=chain (by go_grown) hB1
  clear hB1 hPA C
  rw [hp]
  go_wp2_with fail
  go_returns
  exact ⟨rfl,hBw1⟩
 ·have hO:textO p=⟨(textW p).toArray⟩:=by unfold textO;rw [hp];rfl
  rw [hO]
  have hNp:=hN hp
  obtain ⟨T,hT⟩:∃ z,Hid ((⟨(textW p).toArray⟩:ByteArray)=z):=⟨_,rfl⟩
  have hcall:=fun (u:World) (hu:Below w.heap.size w u)=>eZ_ B0 _ p u (hPA.below hu) hd hNp
  rw [hT.out] at hcall
  rw [hT.out]
  go_enter Tryz.func37,Tryz.ntmps37
  go_wp2_with fail
  refine (bJ_ B0 hB0 _ p _ (hPA.below (by go_grown)) hd).mono ?_
  rintro e w1 ⟨rfl,hB1⟩
  have hBw1:Below w.heap.size w w1:=chain (by go_grown) hB1
  replace C:=C.below hB1
  have c0:=C.cell 0
  have c1:=C.cell 1
  have c2:=C.cell 2
  have c3:=C.cell 3
  have c4:=C.cell 4
  have c5:=C.cell 5
  clear hB1 hPA C
  rw [hp]
  go_wp2_with fail
  refine (hcall w1 hBw1).mono ?_
  rintro e w2 ⟨rfl,hB2⟩
  go_wp2
  go_returns
  exact ⟨rfl,chain hBw1 hB2⟩
theorem ew_ {size:Int}:∀ {l:List Ex} {next:Int},xgo size next l=true->1<=next->∀ e∈l,1<=e.a∧e.a<=size+1∧e.d.size<=20
 |[],_,_,_=>by simp
 |e::r,next,h,h1=>by
  simp only [xgo,dataOkB,Bool.and_eq_true,decide_eq_true_eq] at h
  intro x hx
  rcases List.mem_cons.1 hx with rfl | hx
  ·omega
  ·exact ew_ h.2 (by omega) x hx
theorem ex_ {next:Int} {e:List Ex}:∀ {l:List Vo} {last:Int},vgo next e last l=true->0<=last->∀ v∈l,0<v.id∧v.id<next∧v.nm.size<=8∧v.its.length<=5∧igo e none v.its=true
 |[],_,_,_=>by simp
 |v::r,last,h,h1=>by
  simp only [vgo,itemsB,nameB,Bool.and_eq_true,decide_eq_true_eq] at h
  obtain ⟨⟨⟨⟨a1,a2⟩,a3⟩,a4⟩,a5⟩:=h
  intro x hx
  rcases List.mem_cons.1 hx with rfl | hx
  ·exact ⟨by omega,a2,a3.1.2,a4.1,a4.2⟩
  ·exact ex_ a5 (by omega) x hx
theorem ey_ {e:List Ex}:∀ {l:List It} {q:Option It},igo e q l=true->∀ x∈l,x.nm.size<=8∧partsOkB x.ps=true
 |[],_,_=>by simp
 |y::r,q,h=>by
  simp only [igo,nameB,Bool.and_eq_true,decide_eq_true_eq] at h
  obtain ⟨⟨⟨a1,_⟩,a3⟩,a4⟩:=h
  intro x hx
  rcases List.mem_cons.1 hx with rfl | hx
  ·refine ⟨a1.1.2,?_⟩
   unfold contentO at a3
   split at a3
   ·rename_i h;exact h.1
   ·cases a3
  ·exact ey_ a4 x hx
theorem nG_ {p:Pt} (h:partOkB p=true) (hn:p.n<=100):Num p.a∧Num p.f∧Num p.n:=by
 unfold partOkB at h
 unfold Num
 split at h
 ·rename_i ha
  simp only [Bool.and_eq_true,decide_eq_true_eq,beq_iff_eq] at h ha
  omega
 ·simp only [Bool.and_eq_true,decide_eq_true_eq] at h
  omega
theorem bx_:∀ (l:List ByteArray),(wordL l).length<=(l.map (fun x=>x.size+1)).sum
 |[]=>by unfold wordL;simp [Lib.join]
 |[a]=>by rw [bI_];simp
 |a::b::l=>by
  rw [bb_]
  have:=bx_ (b::l)
  simp at this ⊢
  omega
theorem by_ {α:Type} {f:α->List UInt8} {m:Nat}:∀ {l:List α},(∀ x∈l,(f x).length<=m)->(l.flatMap f).length<=l.length*m
 |[],_=>by simp
 |x::r,h=>by
  have h1:=h x (by simp)
  have h2:=by_ (l:=r) fun y hy=>h y (by simp [hy])
  rw [List.flatMap_cons,List.length_append,List.length_cons,Nat.add_mul]
  omega
theorem bE_ {n:Int} (h:Num n):(decB n).size<=13:=cq_ h.1 h.2
theorem nH_ {c:Ct} (h:ownerOkB c.o=true) (h1:-1000<=c.n) (h2:c.n<=1000):(Num c.o.a∧Num c.o.v∧Num c.n)∧c.o.f.size<=8:=by
 simp only [ownerOkB,nameB,Bool.and_eq_true,decide_eq_true_eq] at h
 unfold Num
 omega
theorem lA_ {word:ByteArray} {c:Ct} (hw:word.size<=4) (h:Num c.o.a∧Num c.o.v∧Num c.n) (hf:c.o.f.size<=8):(lineL (ctL word c)).length<=60:=by
 have h1:=bx_ (ctL word c)
 have:=bE_ h.1
 have:=bE_ h.2.1
 have:=bE_ h.2.2
 unfold lineL
 simp [ctL] at h1 ⊢
 omega
theorem hr_ {p:Po} (h:poolB p=true):refsOkB p.rf=true∧lateOkB p.lt=true:=by
 simp only [poolB,Bool.and_eq_true] at h
 have h1:=h.1.2
 by_cases hh:refsOkB p.rf=true∧lateOkB p.lt=true
 ·exact hh
 ·unfold flushedO at h1
  rw [if_neg hh] at h1
  cases h1
theorem fk_ {p:Po} (h:poolB p=true):NumO p:=by
 obtain ⟨v1,v2,v3,v4,_⟩:=jn_ h
 obtain ⟨s1,s2,s3,s4⟩:=iV_ v4
 obtain ⟨r1,r2⟩:=hr_ h
 have hnx:1<=p.next:=by
  simp only [poolB,Bool.and_eq_true,decide_eq_true_eq] at h
  exact h.1.1.1.1.1.2
 have hE:=ew_ s4 (by omega)
 have hV:=ex_ v2 (by omega)
 simp only [refsOkB,Bool.and_eq_true,decide_eq_true_eq] at r1
 simp only [lateOkB,Bool.and_eq_true,decide_eq_true_eq,List.all_eq_true] at r2
 have hR:∀ c∈p.rf,(Num c.o.a∧Num c.o.v∧Num c.n)∧c.o.f.size<=8:=fun c hc=>by
  have:=dl_ r1.2 c hc
  simp only [refB,Bool.and_eq_true,decide_eq_true_eq] at this
  exact nH_ this.1.1 (by omega) this.2
 have hL:∀ c∈p.lt,(Num c.o.a∧Num c.o.v∧Num c.n)∧c.o.f.size<=8:=fun c hc=>by
  have:=r2.2 c hc
  simp only [lateB,Bool.and_eq_true,decide_eq_true_eq] at this
  exact nH_ this.1.1.1 this.1.1.2 this.1.2
 have hs:Num p.size:=⟨by omega,by omega⟩
 have hn:Num p.next:=⟨by omega,by omega⟩
 have hX:∀ e∈p.ex,Num e.a:=fun e he=>by have:=hE e he;exact ⟨by omega,by omega⟩
 have hI:∀ v∈p.vs,∀ x∈v.its,NumP x.ps∧x.ps.length<=16∧x.nm.size<=8:=fun v hv x hx=>by
  obtain ⟨_,_,_,_,a5⟩:=hV v hv
  obtain ⟨b1,b2⟩:=ey_ a5 x hx
  simp only [partsOkB,Bool.and_eq_true,decide_eq_true_eq] at b2
  exact ⟨fun q hq=>nG_ (cs_ b2.2 (by omega) q hq).1 (cs_ b2.2 (by omega) q hq).2,b2.1,b1⟩
 refine ⟨hs,hn,hX,fun v hv=>⟨⟨by have:=(hV v hv).1;omega,by have:=(hV v hv).2.1;omega⟩,fun x hx=>(hI v hv x hx).1,by have:=(hV v hv).2.2.2.1;omega,fun x hx=>by have:=(hI v hv x hx).2.1;omega⟩,fun c hc=>(hR c hc).1,fun c hc=>(hL c hc).1,?_⟩
 have t1:(lineL (hdW p)).length<=50:=by
  have h1:=bx_ (hdW p)
  have:=bE_ hs
  have:=bE_ hn
  unfold lineL
  simp [hdW] at h1 ⊢
  have e4:(ByteArray.mk #[112,111,111,108]).size=4:=rfl
  omega
 have t2:(exsW p.ex).length<=p.ex.length*60:=by_ fun e he=>by
  have h1:=bx_ (exW e)
  have:=bE_ (hX e he)
  have:=(hE e he).2.2
  have e6:(ByteArray.mk #[101,120,116,101,110,116]).size=6:=rfl
  show (lineL (exW e)).length<=_
  unfold lineL
  simp [exW] at h1 ⊢
  omega
 have t3:(volsW p.vs).length<=p.vs.length*8000:=by_ fun v hv=>by
  obtain ⟨a1,a2,a3,a4,_⟩:=hV v hv
  have h1:=bx_ (voW v)
  have:=bE_ (n:=v.id) ⟨by omega,by omega⟩
  have e6:(ByteArray.mk #[118,111,108,117,109,101]).size=6:=rfl
  have e1:(flagB v.fx).size=1:=by cases v.fx<;>rfl
  have i1:(itsW v.its).length<=v.its.length*1200:=by_ fun x hx=>by
   obtain ⟨b1,b2,b3⟩:=hI v hv x hx
   have p1:(partsW x.ps).length<=x.ps.length*60:=by_ fun q hq=>by
    obtain ⟨c1,c2,c3⟩:=b1 q hq
    have h1:=bx_ (ptW q)
    have:=bE_ c1
    have:=bE_ c2
    have:=bE_ c3
    have e4:(ByteArray.mk #[112,97,114,116]).size=4:=rfl
    show (lineL (ptW q)).length<=_
    unfold lineL
    simp [ptW] at h1 ⊢
    omega
   have h1:=bx_ [⟨#[102,105,108,101]⟩,x.nm]
   have e4:(ByteArray.mk #[102,105,108,101]).size=4:=rfl
   unfold itW lineL
   simp at h1 ⊢
   omega
  unfold volW lineL
  simp [voW] at h1 ⊢
  omega
 have t4:(ctsW refW p.rf).length<=p.rf.length*60:=by_ fun c hc=>lA_ (by decide) (hR c hc).1 (hR c hc).2
 have t5:(ctsW lateW p.lt).length<=p.lt.length*60:=by_ fun c hc=>lA_ (by decide) (hL c hc).1 (hL c hc).2
 unfold textW
 rw [List.length_append,List.length_append,List.length_append,List.length_append]
 have:=r1.1
 have:=r2.1
 omega
end Go.Proofs.YtigldeccfpkdmaaGreatDoor
