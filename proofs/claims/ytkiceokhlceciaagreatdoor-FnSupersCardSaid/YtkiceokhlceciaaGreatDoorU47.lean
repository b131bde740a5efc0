/- Texts of pools, read and written; what is drawn. -/
import Derived.Test.YtkiceokhlceciaaGreatDoorU17
import Derived.Test.YtkiceokhlceciaaGreatDoorU46
set_option maxHeartbeats 20000000
set_option maxRecDepth 100000
namespace Go.Proofs.YtkiceokhlceciaaGreatDoor
open Go Go.RowKit Go.BigFrame Go.Shelf Tryz
theorem EI (B0:Nat)(v:Value)(p:Po)(w:World)(h:AW B0 w v p)(hd:AJ p)(hp:Ap p=true)(hN:Hc p)(ht:ES w)(hg:9<=w.heap.size) :
  Calls prog 17 #[v] w fun e w'=>e=.returned (.string ⟨(AO p).toArray⟩)∧Below w.heap.size w w':=by
 have h0:=h
 obtain⟨ea,en,ec,va,vn,vc,ra,rn,rc,la,ln,lc,rfl,⟨h1,k1⟩,⟨h2,k2⟩,⟨h3,k3⟩,h4,k4⟩:=h
 obtain⟨R,hR⟩:∃ R,Hid (AO p=R):=⟨_,rfl⟩
 have hn:=hN.len
 rw[hR.out] at hn
 rw[hR.out]
 obtain⟨ds,qa⟩:∃ x,AF p.size=x:=⟨_,rfl⟩
 obtain⟨dn,h8⟩:∃ x,AF p.next=x:=⟨_,rfl⟩
 obtain⟨L1,hG⟩:∃ x,Hid (Ah [⟨#[112,111,111,108]⟩,ds,dn]=x):=⟨_,rfl⟩
 obtain⟨L2,hH⟩:∃ x,Hid (L1++DN p.ex=x):=⟨_,rfl⟩
 obtain⟨L3,hI⟩:∃ x,Hid (L2++B2 p.vs=x):=⟨_,rfl⟩
 obtain⟨L4,hJ⟩:∃ x,Hid (L3++BC DE p.rf=x):=⟨_,rfl⟩
 have hS:Hid (L4++BC B5 p.lt=R):=by show _=_;rw[<-hR.out,<-hJ.out,<-hI.out,<-hH.out,<-hG.out,<-qa,<-h8];rfl
 have l5:Hid ((L4++BC B5 p.lt).length<=1000000):=by show _<=_;rw[hS.out];exact hn
 have l4:Hid ((L3++BC DE p.rf).length<=1000000):=by have:=l5.out;rw[ZE] at this;show _<=_;rw[hJ.out];omega
 have l3:Hid ((L2++B2 p.vs).length<=1000000):=by have:=l4.out;rw[ZE] at this;show _<=_;rw[hI.out];omega
 have l2:Hid ((L1++DN p.ex).length<=1000000):=by have:=l3.out;rw[ZE] at this;show _<=_;rw[hH.out];omega
 have l1:([]:List UInt8).length+(Ah [⟨#[112,111,111,108]⟩,ds,dn]).length<=1000000:=by have:=l2.out;rw[ZE,<-hG.out] at this;simp;omega
 have qf:R≠[]:=by
  rw[<-hS.out,<-hJ.out,<-hI.out,<-hH.out,<-hG.out]
  unfold Ah
  simp
 have qk:Hid (p.ex.length=en):=h1.len
 have qj:Hid (p.vs.length=vn):=h2.len
 have qi:Hid (p.rf.length=rn):=h3.len
 have qh:Hid (p.lt.length=ln):=h4.len
 have qo:en<=4194304:=by rw[<-h1.len];exact hd.1
 have qp:vn<=4194304:=by rw[<-h2.len];exact hd.2.2.1
 have qq:rn<=4194304:=by rw[<-h3.len];exact hd.2.2.2.2.1
 have qr:ln<=4194304:=by rw[<-h4.len];exact hd.2.2.2.2.2.2.1
 obtain⟨sz1,sz2⟩:=hN.size
 obtain⟨nx1,nx2⟩:=hN.next
 go_enter func17,ntmps17
 go_wp2_with fail
 refine (ch_ B0 _ p _ (h0.below (by go_grown)) hd).mono ?_
 rintro e w1 ⟨rfl,hE⟩
 have C:Blk w1 w.heap.size #[.int .i64 p.size,.int .i64 p.next,.slice ea en ec,.slice va vn vc,.slice ra rn rc,.slice la ln lc] 28:=(Blk.new w _ _).below hE
 have hf:Below w.heap.size w w1:=Aa (by go_grown) hE
 have qs:w.heap.size+1<=w1.heap.size:=by have:=hE.size;simp at this;omega
 clear hE
 rw[hp]
 go_wp2_with fail
 have hA:Below w1.heap.size w1 (w1.alloc (.cells #[.pointer none,.slice none 0 0] 74)):=(Yg _ _).alloc (Zd _) _
 have hW:=MJ w1
 replace h1:=h1.below hf
 replace h2:=h2.below hf
 replace h3:=h3.below hf
 replace h4:=h4.below hf
 have hB:=Br ht hf hg
 have hq:9<=w1.heap.size:=by omega
 clear k1 k2 k3 k4 h0 hR hn ht
 generalize w1.alloc (.cells #[.pointer none,.slice none 0 0] 74)=W at *
 have hm:∀ u:World,Below w1.heap.size w1 u->u.cell? ⟨w.heap.size,0,none⟩=some (.int .i64 p.size)∧u.cell? ⟨w.heap.size,1,none⟩=some (.int .i64 p.next):=fun u hu=>⟨(C.below hu).cell 0,(C.below hu).cell 1⟩
 have hM:Below w1.heap.size w1 W.drew:=hA.drew
 have hT:(fun u:World=>u.cell? ⟨w.heap.size,0,none⟩=some (.int .i64 p.size)∧u.cell? ⟨w.heap.size,1,none⟩=some (.int .i64 p.next)) W.drew:=(hm _ hM)
 refine aC_ (S:=(fun u:World=>u.cell? ⟨w.heap.size,0,none⟩=some (.int .i64 p.size)∧u.cell? ⟨w.heap.size,1,none⟩=some (.int .i64 p.next))) 8 (by kernel_rfl) rfl ?_
 refine tk 0 ?_ (hy:=by intro u hu;obtain⟨u0,u1⟩:=hu;go_simp<;>with_reducible rfl)
 refine tk 1 ?_ (hy:=by intro u hu;obtain⟨u0,u1⟩:=hu;go_simp<;>with_reducible rfl)
 refine tk 3 ?_ (hy:=by intro u hu;obtain⟨u0,u1⟩:=hu;go_simp<;>with_reducible rfl)
 refine tk 4 ?_ (hy:=by intro u hu;obtain⟨u0,u1⟩:=hu;go_simp<;>with_reducible rfl)
 refine Aq (i:=2) (by kernel_rfl) rfl (fun K hK=>?_)
 go_simp
 refine (Az p.size W.drew (by omega) (by omega) (Br hB hM hq)).mono ?_
 rintro e w2 ⟨rfl,hj⟩
 rw[qa]
 have hw:Below W.heap.size W w2:=Aa (Yg _ W).drew hj
 have hQ:=Aa hA hw
 dsimp only
 refine hK.out _ _ (hm _ hQ) (fun hHeld=>?_)
 clear hK K
 try simp only[Act.put,Yj,Yq,Yr]
 refine Aq (i:=5) (by kernel_rfl) rfl (fun K hK=>?_)
 go_simp
 refine (Az p.next w2 (by omega) (by omega) (Br hB hQ hq)).mono ?_
 rintro e w3 ⟨rfl,hD⟩
 rw[h8]
 have hO:=Aa hw hD
 have hZ:=Aa hA hO
 dsimp only
 refine hK.out _ _ (hm _ hZ) (fun hHeld=>?_)
 clear hK K
 try simp only[Act.put,Yj,Yq,Yr]
 refine Aq (i:=6) (by kernel_rfl) rfl (fun K hK=>?_)
 go_simp
 have hC:Below w3.heap.size w3 (w3.alloc (.cells #[.string ⟨#[112,111,111,108]⟩,.string ds,.string dn] 9)):=(Yg _ _).alloc (Zd _) _
 have X4:=Blk.new w3 #[.string ⟨#[112,111,111,108]⟩,.string ds,.string dn] 9
 have hr:=Aa hO hC
 have ho:=Aa hA hr
 have qd:=ho.size
 have hL:=X4.lt
 refine hK.out _ _ (hm _ ho) (fun hHeld=>?_)
 clear hK K
 try simp only[Act.put,Yj,Yq,Yr]
 generalize w3.alloc (.cells #[.string ⟨#[112,111,111,108]⟩,.string ds,.string dn] 9)=w4 at *
 refine Aq (i:=7) (by kernel_rfl) rfl (fun K hK=>?_)
 go_simp
 refine (BU w1.heap.size w1.heap.size [] [⟨#[112,111,111,108]⟩,ds,dn] w3.heap.size 0 3 w4 (hW.below hr) (sl5 (ps:=[⟨#[112,111,111,108]⟩,ds,dn]) X4) hL (by simp) l1 (by simp) (by omega)).mono ?_
 rintro e w5 ⟨rfl,h5,hY,_⟩
 rw[ZM,hG.out] at h5
 have hF:=ho.trans hY
 dsimp only
 refine hK.out _ _ (hm _ hF) (fun hHeld=>?_)
 clear hK K
 try simp only[Act.put,Yj,Yq,Yr]
 refine wpAnyH_done (by kernel_rfl) ?_ _
 clear hT hHeld hm X4 hr ho hC hw hj hO hD hY l1 hL qd hQ hZ hM hA hW
 have y2:w5.cell? ⟨w.heap.size,2,none⟩=some (.slice ea en ec):=(C.below hF).cell 2
 go_wp2_with fail
 go_loopw [26] (fun ix wr=>∃ (k:Nat),k<=en∧ix=.int .i64 k∧Wr w1.heap.size w1.heap.size (L1++DN (p.ex.take k)) wr∧Below w1.heap.size w1 wr) (fun ix _=>en-(intOf ix).toNat)
 case atStart=>exact⟨0,Zg _,rfl,by simpa [DN] using h5,hF⟩
 case round=>
  clear h5 hF y2
  obtain⟨k,hk,rfl,h6,ha⟩:=hrel
  by_cases hlt:k<en
  ·obtain⟨eb,eo,x,rfl,hx,c0,c1⟩:=be_ h1 hlt
   obtain⟨na1,na2⟩:=hN.ex x (Zc hx)
   have hz:Hid (DN (p.ex.take (k+1))=DN (p.ex.take k)++Ah (exW x)):=B4 hx
   have hb:=BS (f:=fun e=>Ah (exW e)) hx l2.out
   obtain⟨Q0,hl⟩:∃ P,Hid (L1++DN (p.ex.take k)=P):=⟨_,rfl⟩
   change (L1++DN (p.ex.take k)++Ah (exW x)).length<=1000000 at hb
   rw[hl.out] at h6 hb
   rw[ZE] at hb
   obtain⟨da,h7⟩:∃ z,AF x.a=z:=⟨_,rfl⟩
   have qc:Hid (exW x=[⟨#[101,120,116,101,110,116]⟩,da,x.d]):=by show _=_;unfold exW;rw[h7]
   rw[qc.out] at hb
   have g0:=Ab ha c0
   have g1:=Ab ha c1
   have hV:(k:Int)<en:=by omega
   have hX:(0:Int)<=k:=by omega
   have hs:=ha.size
   have qg:=h6.lt
   clear hx c0 c1
   go_wp2_with fail
   have hA:Below wr.heap.size wr (wr.alloc (.cells #[.int .i64 x.a,.string x.d] 77)):=(Yg _ _).alloc (Zd _) _
   have PB:=Blk.new wr #[.int .i64 x.a,.string x.d] 77
   clear g0 g1
   generalize wr.alloc (.cells #[.int .i64 x.a,.string x.d] 77)=V at *
   have hm:∀ u:World,Below V.heap.size V u->u.cell? ⟨wr.heap.size,0,none⟩=some (.int .i64 x.a)∧u.cell? ⟨wr.heap.size,1,none⟩=some (.string x.d):=fun u hu=>⟨(PB.below hu).cell 0,(PB.below hu).cell 1⟩
   have hT:(fun u:World=>u.cell? ⟨wr.heap.size,0,none⟩=some (.int .i64 x.a)∧u.cell? ⟨wr.heap.size,1,none⟩=some (.string x.d)) V.drew:=(hm _ (Yg _ V).drew)
   refine aC_ (S:=(fun u:World=>u.cell? ⟨wr.heap.size,0,none⟩=some (.int .i64 x.a)∧u.cell? ⟨wr.heap.size,1,none⟩=some (.string x.d))) 7 (by kernel_rfl) rfl ?_
   refine tk 0 ?_ (hy:=by intro u hu;obtain⟨u0,u1⟩:=hu;go_simp<;>with_reducible rfl)
   refine tk 1 ?_ (hy:=by intro u hu;obtain⟨u0,u1⟩:=hu;go_simp<;>with_reducible rfl)
   refine tk 3 ?_ (hy:=by intro u hu;obtain⟨u0,u1⟩:=hu;go_simp<;>with_reducible rfl)
   refine tk 4 ?_ (hy:=by intro u hu;obtain⟨u0,u1⟩:=hu;go_simp<;>with_reducible rfl)
   refine Aq (i:=2) (by kernel_rfl) rfl (fun K hK=>?_)
   go_simp
   refine (Az x.a V.drew (by omega) (by omega) (Br hB (ha.trans (hA.drew.mono hs)) hq)).mono ?_
   rintro e w2 ⟨rfl,hj⟩
   rw[h7]
   have hw:Below V.heap.size V w2:=Aa (Yg _ V).drew hj
   dsimp only
   refine hK.out _ _ (hm _ hw) (fun hHeld=>?_)
   clear hK K
   try simp only[Act.put,Yj,Yq,Yr]
   refine Aq (i:=5) (by kernel_rfl) rfl (fun K hK=>?_)
   go_simp
   have hC:Below w2.heap.size w2 (w2.alloc (.cells #[.string ⟨#[101,120,116,101,110,116]⟩,.string da,.string x.d] 9)):=(Yg _ _).alloc (Zd _) _
   have X4:=Blk.new w2 #[.string ⟨#[101,120,116,101,110,116]⟩,.string da,.string x.d] 9
   have hr:=Aa hw hC
   have ho:=Aa hA hr
   have qd:=ho.size
   have hL:=X4.lt
   refine hK.out _ _ (hm _ hr) (fun hHeld=>?_)
   clear hK K
   try simp only[Act.put,Yj,Yq,Yr]
   generalize w2.alloc (.cells #[.string ⟨#[101,120,116,101,110,116]⟩,.string da,.string x.d] 9)=w4 at *
   refine Aq (i:=6) (by kernel_rfl) rfl (fun K hK=>?_)
   go_simp
   refine (BU w1.heap.size w1.heap.size Q0 [⟨#[101,120,116,101,110,116]⟩,da,x.d] w2.heap.size 0 3 w4 (h6.below ho) (sl5 (ps:=[⟨#[101,120,116,101,110,116]⟩,da,x.d]) X4) hL (by simp) hb (by simp) (by omega)).mono ?_
   rintro e w9 ⟨rfl,h9,he,qb⟩
   have P9:=(PB.below hr).ok qb (by omega) (by decide)
   dsimp only
   refine hK.out _ _ ⟨P9.cell 0,P9.cell 1⟩ (fun hHeld=>?_)
   clear hK K
   try simp only[Act.put,Yj,Yq,Yr]
   refine wpAnyH_done (by kernel_rfl) ?_ _
   have hc:Below w1.heap.size w1 w9:=ha.trans ((ho.mono hs).trans he)
   have hv:Wr w1.heap.size w1.heap.size (L1++DN (p.ex.take (k+1))) w9:=by rw[hz.out,<-ZC,hl.out,qc.out];exact h9
   clear hT hHeld hm X4 hr ho hC hw hj he qb P9 PB hA
   go_wp2
   go_roundw
   case rel=>exact⟨k+1,by omega,by go_num,hv,hc⟩
   case measure=>simp[intOf];omega
  ·obtain rfl:k=en:=by omega
   rw[Zk (Zm qk.out),hH.out] at h6
   obtain⟨wa,ql⟩:∃ y,y=wr:=⟨_,rfl⟩
   subst ql
   have y3:wa.cell? ⟨w.heap.size,3,none⟩=some (.slice va vn vc):=(C.below ha).cell 3
   go_wp2_with fail
   go_loopw [41] (fun ix wr=>∃ (k:Nat),k<=vn∧ix=.int .i64 k∧Wr w1.heap.size w1.heap.size (L2++B2 (p.vs.take k)) wr∧Below w1.heap.size w1 wr) (fun ix _=>vn-(intOf ix).toNat)
   case atStart=>exact⟨0,Zg _,rfl,by simpa [B2] using h6,ha⟩
   case round=>
    clear h6 ha y3
    obtain⟨k,hk,rfl,h6,ha⟩:=hrel
    by_cases hlt:k<vn
    ·obtain⟨vb,vo,x,pa,pn,pc,rfl,hx,c0,c1,c2,c3,hP,_,_⟩:=b5_ h2 hlt
     obtain⟨m1,m2,m3,m4⟩:=hN.vs x (Zc hx)
     rw[hP.len] at m3
     have hz:Hid (B2 (p.vs.take (k+1))=B2 (p.vs.take k)++Dr x):=B4 hx
     have hb:=BS (f:=Dr) hx l3.out
     obtain⟨Q0,hl⟩:∃ P,Hid (L2++B2 (p.vs.take k)=P):=⟨_,rfl⟩
     change (L2++B2 (p.vs.take k)++Dr x).length<=1000000 at hb
     rw[hl.out] at h6 hb
     have g0:=Ab ha c0
     have g1:=Ab ha c1
     have g2:=Ab ha c2
     have g3:=Ab ha c3
     have hV:(k:Int)<vn:=by omega
     have hX:(0:Int)<=k:=by omega
     have hs:=ha.size
     clear hx c0 c1 c2 c3
     go_wp2_with fail
     have hA:Below wr.heap.size wr (wr.alloc (.cells #[.int .i64 x.id,.string x.nm,.bool x.fx,.slice pa pn pc] 80)):=(Yg _ _).alloc (Zd _) _
     have qe:=hA.size
     clear g0 g1 g2 g3
     generalize wr.alloc (.cells #[.int .i64 x.id,.string x.nm,.bool x.fx,.slice pa pn pc] 80)=V at *
     have hh:Below w1.heap.size w1 V:=ha.trans (hA.mono hs)
     refine (HZ w1.heap.size w1.heap.size Q0 x B0 pa pn pc w1 V hP hh (Zd _) (h6.below hA) (Br hB hh hq) hq (by omega) m1 m2 m3 m4 hb).mono ?_
     rintro e w9 ⟨rfl,h9,he,_⟩
     have hc:=hh.trans he
     have hv:Wr w1.heap.size w1.heap.size (L2++B2 (p.vs.take (k+1))) w9:=by rw[hz.out,<-ZC,hl.out];exact h9
     clear he hh hA
     go_wp2
     go_roundw
     case rel=>exact⟨k+1,by omega,by go_num,hv,hc⟩
     case measure=>simp[intOf];omega
    ·obtain rfl:k=vn:=by omega
     rw[Zk (Zm qj.out),hI.out] at h6
     obtain⟨wb,qm⟩:∃ y,y=wr:=⟨_,rfl⟩
     subst qm
     have y4:wb.cell? ⟨w.heap.size,4,none⟩=some (.slice ra rn rc):=(C.below ha).cell 4
     go_wp2_with fail
     go_loopw [51] (fun ix wr=>∃ (k:Nat),k<=rn∧ix=.int .i64 k∧Wr w1.heap.size w1.heap.size (L3++BC DE (p.rf.take k)) wr∧Below w1.heap.size w1 wr) (fun ix _=>rn-(intOf ix).toNat)
     case atStart=>exact⟨0,Zg _,rfl,by simpa [BC] using h6,ha⟩
     case round=>
      clear h6 ha y4
      obtain⟨k,hk,rfl,h6,ha⟩:=hrel
      by_cases hlt:k<rn
      ·obtain⟨cb,co,x,rfl,hx,c0,c1,c2,c3⟩:=aN_ h3 hlt
       obtain⟨m1,m2,m3⟩:=hN.rf x (Zc hx)
       have hz:Hid (BC DE (p.rf.take (k+1))=BC DE (p.rf.take k)++Ah (ctL DE x)):=B4 hx
       have hb:=BS (f:=fun c=>Ah (ctL DE c)) hx l4.out
       obtain⟨Q0,hl⟩:∃ P,Hid (L3++BC DE (p.rf.take k)=P):=⟨_,rfl⟩
       change (L3++BC DE (p.rf.take k)++Ah (ctL DE x)).length<=1000000 at hb
       rw[hl.out] at h6 hb
       rw[ZE] at hb
       have g0:=Ab ha c0
       have g1:=Ab ha c1
       have g2:=Ab ha c2
       have g3:=Ab ha c3
       have hV:(k:Int)<rn:=by omega
       have hX:(0:Int)<=k:=by omega
       have hs:=ha.size
       clear hx c0 c1 c2 c3
       go_wp2_with fail
       have hA:Below wr.heap.size wr (wr.alloc (.cells #[.int .i64 x.o.a,.int .i64 x.o.v,.string x.o.f,.int .i64 x.n] 68)):=(Yg _ _).alloc (Zd _) _
       have qe:=hA.size
       clear g0 g1 g2 g3
       generalize wr.alloc (.cells #[.int .i64 x.o.a,.int .i64 x.o.v,.string x.o.f,.int .i64 x.n] 68)=V at *
       have hh:Below w1.heap.size w1 V:=ha.trans (hA.mono hs)
       refine (EZ w1.heap.size w1.heap.size Q0 DE x V (h6.below hA) (Br hB hh hq) hq (by omega) m1 m2 m3 hb).mono ?_
       rintro e w9 ⟨rfl,h9,he,_⟩
       have hc:=hh.trans he
       have hv:Wr w1.heap.size w1.heap.size (L3++BC DE (p.rf.take (k+1))) w9:=by rw[hz.out,<-ZC,hl.out];exact h9
       clear he hh hA
       go_wp2
       go_roundw
       case rel=>exact⟨k+1,by omega,by go_num,hv,hc⟩
       case measure=>simp[intOf];omega
      ·obtain rfl:k=rn:=by omega
       rw[Zk (Zm qi.out),hJ.out] at h6
       obtain⟨wc,qn⟩:∃ y,y=wr:=⟨_,rfl⟩
       subst qn
       have y5:wc.cell? ⟨w.heap.size,5,none⟩=some (.slice la ln lc):=(C.below ha).cell 5
       go_wp2_with fail
       go_loopw [61] (fun ix wr=>∃ (k:Nat),k<=ln∧ix=.int .i64 k∧Wr w1.heap.size w1.heap.size (L4++BC B5 (p.lt.take k)) wr∧Below w1.heap.size w1 wr) (fun ix _=>ln-(intOf ix).toNat)
       case atStart=>exact⟨0,Zg _,rfl,by simpa [BC] using h6,ha⟩
       case round=>
        clear h6 ha y5
        obtain⟨k,hk,rfl,h6,ha⟩:=hrel
        by_cases hlt:k<ln
        ·obtain⟨cb,co,x,rfl,hx,c0,c1,c2,c3⟩:=aN_ h4 hlt
         obtain⟨m1,m2,m3⟩:=hN.lt x (Zc hx)
         have hz:Hid (BC B5 (p.lt.take (k+1))=BC B5 (p.lt.take k)++Ah (ctL B5 x)):=B4 hx
         have hb:=BS (f:=fun c=>Ah (ctL B5 c)) hx l5.out
         obtain⟨Q0,hl⟩:∃ P,Hid (L4++BC B5 (p.lt.take k)=P):=⟨_,rfl⟩
         change (L4++BC B5 (p.lt.take k)++Ah (ctL B5 x)).length<=1000000 at hb
         rw[hl.out] at h6 hb
         rw[ZE] at hb
         have g0:=Ab ha c0
         have g1:=Ab ha c1
         have g2:=Ab ha c2
         have g3:=Ab ha c3
         have hV:(k:Int)<ln:=by omega
         have hX:(0:Int)<=k:=by omega
         have hs:=ha.size
         clear hx c0 c1 c2 c3
         go_wp2_with fail
         have hA:Below wr.heap.size wr (wr.alloc (.cells #[.int .i64 x.o.a,.int .i64 x.o.v,.string x.o.f,.int .i64 x.n] 68)):=(Yg _ _).alloc (Zd _) _
         have qe:=hA.size
         clear g0 g1 g2 g3
         generalize wr.alloc (.cells #[.int .i64 x.o.a,.int .i64 x.o.v,.string x.o.f,.int .i64 x.n] 68)=V at *
         have hh:Below w1.heap.size w1 V:=ha.trans (hA.mono hs)
         refine (EZ w1.heap.size w1.heap.size Q0 B5 x V (h6.below hA) (Br hB hh hq) hq (by omega) m1 m2 m3 hb).mono ?_
         rintro e w9 ⟨rfl,h9,he,_⟩
         have hc:=hh.trans he
         have hv:Wr w1.heap.size w1.heap.size (L4++BC B5 (p.lt.take (k+1))) w9:=by rw[hz.out,<-ZC,hl.out];exact h9
         clear he hh hA
         go_wp2
         go_roundw
         case rel=>exact⟨k+1,by omega,by go_num,hv,hc⟩
         case measure=>simp[intOf];omega
        ·obtain rfl:k=ln:=by omega
         rw[Zk (Zm qh.out),hS.out] at h6
         go_wp2_with fail
         refine (JT w1.heap.size w1.heap.size R wr h6.h qf).mono ?_
         rintro e w9 ⟨rfl,he⟩
         have hU:=hf.trans ((ha.trans he).mono (show w.heap.size<=w1.heap.size by omega))
         go_wp2
         go_returns
         exact⟨rfl,hU⟩
theorem GC (B0:Nat)(v:Value)(p:Po)(w:World)(h:AW B0 w v p)(hd:AJ p)(hN:Ap p=true->Hc p)(ht:ES w)(hg:9<=w.heap.size) :
  Calls prog 17 #[v] w fun e w'=>e=.returned (.string (BL p))∧Below w.heap.size w w':=by
 cases hp:Ap p
 ·have hO:BL p=⟨#[]⟩:=by unfold BL;rw[hp];rfl
  rw[hO]
  have hc:=h
  obtain⟨ea,en,ec,va,vn,vc,ra,rn,rc,la,ln,lc,rfl,_⟩:=h
  go_enter func17,ntmps17
  go_wp2_with fail
  refine (ch_ B0 _ p _ (hc.below (by go_grown)) hd).mono ?_
  rintro e w1 ⟨rfl,hb⟩
  have ha:Below w.heap.size w w1:=Aa (by go_grown) hb
  clear hb hc
  rw[hp]
  go_wp2_with fail
  go_returns
  exact⟨rfl,ha⟩
 ·have hO:BL p=⟨(AO p).toArray⟩:=by unfold BL;rw[hp];rfl
  rw[hO]
  exact EI B0 v p w h hd hp (hN hp) ht hg
end Go.Proofs.YtkiceokhlceciaaGreatDoor
