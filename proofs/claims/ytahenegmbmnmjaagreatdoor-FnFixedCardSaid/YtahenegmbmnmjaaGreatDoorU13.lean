/- What is laid on a file's parts, put into its volume. -/
import Derived.Test.YtahenegmbmnmjaaGreatDoorU12
set_option maxHeartbeats 20000000
set_option maxRecDepth 100000
namespace Go.Proofs.YtahenegmbmnmjaaGreatDoor
section
open Go Go.RowKit Go.BigFrame Tryz
variable{α:Type}{r:IR}{y:It}{rows:List IR}{l:List It}{B k:Nat}{w:World}{x:α}
theorem jq_ (B vb vn vc i:Nat)(rows:List VR)(r:VR)(y:Vo)(file:ByteArray)(pa:Option Addr)(pn pc:Nat)(l:List Pt)(at':Int)(qa:Option Addr)(qn qc:Nat)(m:List Pt)(ep:Addr)(w:World)(hBw:B<=w.heap.size)
  (RV:Ae vrs 4 62 w B (some ⟨vb,0,none⟩) vn vc rows)(hi:rows[i]?=some r)(V:Bd B w r y)(hris:E6 y.its)(hlen:y.its.length<=4000000)
  (hP:AN w pa pn l)(hpn:pn<=4194304)(hPb:∀ ad,pa=some ad->ad.block<w.heap.size)(hQ:AN w qa qn m)(hqn:qn<=4194304)(hQb:∀ ad,qa=some ad->ad.block<w.heap.size)(hg:BD w 10 ep):
  Calls prog 216 #[.pointer (some ⟨vb,i*4,none⟩),.string file,.slice pa pn pc,.int .i64 at',.slice qa qn qc] w fun e w'=>
   (BQ l at' m=none∧e=.returned (BL 5 ep)∧Below w.heap.size w w')∨(∃ ps r',BQ l at' m=some ps∧e=.returned .nilIface∧Ae vrs 4 62 w' B (some ⟨vb,0,none⟩) vn vc (rows.set i r')∧Bd B w' r' {y with its:=Ba ⟨file,ps⟩ y.its}∧FrL (vb::AU r.pa) w w'∧FJ w r w' r'):=by
 go_enter func216,ntmps216
 go_wp2_with fail
 refine (nc_ pa pn pc l at' qa qn qc m w hP hpn hPb hQ hqn hQb).mono ?_;rintro e w1 ⟨hq,hj⟩
 cases ho:BQ l at' m with
 |none=>
  rw[ho] at hq;obtain rfl:=hq;have x:=Ab hj hg;go_wp2;go_returns;exact .inl ⟨ho,rfl,hj⟩
 |some ps=>
  rw[ho] at hq;obtain⟨a1,n1,c1,rfl,R1⟩:=hq;replace RV:=RV.below hj;replace V:=V.below hj;obtain⟨rowsI,RI,TI⟩:=V.its;have qt:rowsI.length=y.its.length:=TI.len;have qu:rowsI.length=r.pn:=RI.sl.len;have hJ:=hj.size;have qj:=(RV.block _ rfl).2;have y3:w1.cell? ⟨vb,i*4+3,none⟩=some (.slice r.pa r.pn r.pc):=RV.cellAt hi rfl;have qr:r.pn<=4000000:=by omega
  clear hP hQ hPb hQb hg
  go_wp2_with fail
  go_loopw [13] (fun ix wr=>∃ (k:Nat),k<=r.pn∧ix=.int .i64 k∧Hid (k<=plI y.its file)∧wr=w1) (fun ix _=>r.pn-(intOf ix).toNat)
  case atStart=>exact⟨0,Zg _,rfl,Zg _,rfl⟩
  case round=>
   obtain⟨k,hk,rfl,h6,rfl⟩:=hrel;by_cases hlt:k<r.pn
   ·have qd:(k:Int)<r.pn:=by omega
    have qp:(0:Int)<=k:=by omega
    obtain⟨ib,hs,qo,qs,qm⟩:=RI.addr (by omega);have qe:k<y.its.length:=by omega
    obtain⟨z,hz⟩:∃ z,y.its[k]?=some z:=⟨y.its[k],by simp[qe]⟩;have qg:k<rowsI.length:=by omega
    obtain⟨ri,hH⟩:∃ ri,rowsI[k]?=some ri:=⟨rowsI[k],by simp[qg]⟩;have hT:=TI.at' k ri z hH hz;rw[hs] at RI y3;have x0:wr.cell? ⟨ib,k*2,none⟩=some (.string ri.nm):=RI.cellAt (j:=0) hH rfl;rw[hT.nm] at x0;have hZ:=oq_ hz h6.out
    cases h4:bl z.nm.toList file.toList
    ·have hv:Hid (k=plI y.its file):=hZ.2 h4;clear hZ;by_cases he:z.nm.toList=file.toList
     ·have qk:Hid (z.nm=file):=pE_ he;have qb:(z.nm.toList==file.toList)=true:=by simpa using he
      have hI:Hid (Ba ⟨file,ps⟩ y.its=y.its.set (plI y.its file) ⟨file,ps⟩):=pD_ (x:=⟨file,ps⟩) hris (by show y.its[plI y.its file]?=_;rw[<-hv.out];exact hz) he;obtain⟨cc,hb⟩:=RI.blkAt;have x1:wr.cell? ⟨ib,k*2+1,none⟩=some (.slice ri.pa ri.pn ri.pc):=RI.cellAt (j:=1) hH rfl;have f1:=hb.frozen (k*2+1);have h5:((k:Int)==(r.pn:Int))=false:=by simp;omega
      have ql:=cn_ file.toList;go_wp2;have hK:wr.grownBy (wr.setCell ⟨ib,k*2+1,none⟩ (.slice a1 n1 c1)) (some ib):=af_ (Yh _ _) _ _;have h3:=RI.set1 (x':=⟨ri.nm,a1,n1,c1⟩) (v:=.slice a1 n1 c1) aI_ hH (j:=1) (by decide) rfl;have R9:=(R1.ty hK (aa_ hb) (by decide)).mono hBw;have h8:=(TI.tyR hK (aa_ hb) (by decide)).set k (r:=⟨ri.nm,a1,n1,c1⟩) (y:=⟨file,ps⟩) ⟨by show ri.nm=file;rw[hT.nm,qk.out],R9⟩;have h7:=RV.ty hK (aa_ hb) (by decide);go_returns;have hB:=(FrL.of_below (bs:=vb::AU r.pa) hj).new (FrL.of_grown (bs:=[ib]) hK (fun k e=>.inl (by cases e;simp))) (fun k hk=>.inl (by simp at hk;subst hk;rw[hs];simp[AU]));refine .inr ⟨ps,r,ho,rfl,?_,?_,hB,⟨fun ad e=>.inl (aO_.2 ⟨ad,e,rfl⟩),fun rs hw=>by rw[hs] at hw;rw[co_ (hw.below hj) RI.sl,cv_ (r:=r) (by rw[hs];exact h3.sl)];exact oa_ hH (fun ad e=>(R1.block ad e).1)⟩⟩
      ·rw[kB_ hi];exact h7
      ·refine⟨V.id,V.nm,V.fx,_,by rw[hs];exact h3,?_⟩;show AE _ _ _ (Ba ⟨file,ps⟩ y.its);rw[hI.out,<-hv.out];exact h8
     ·have qb:(z.nm.toList==file.toList)=false:=by simpa using he
      have hI:Hid (Ba ⟨file,ps⟩ y.its=y.its.take (plI y.its file)++[⟨file,ps⟩]++y.its.drop (plI y.its file)):=mM_ (x:=⟨file,ps⟩) hris (by show ∀ y',y.its[plI y.its file]?=some y'->_;rw[<-hv.out,hz];intro y' e;cases e;exact he);have h5:((k:Int)==(r.pn:Int))=false:=by simp;omega
      go_wp2_with fail
      have ha:Below wr.heap.size wr (wr.alloc (.cells #[.string file,.slice none 0 0] 125)):=(Yg _ _).alloc (Zd _) _;have ht:=RI.below ha;have hA:=TI.below ha;have hy:=RV.below ha;have hx:=R1.below ha;have hm:=Blk.new wr #[.string file,.slice none 0 0] 125;have hE:=(FrL.of_below hj).new (FrL.of_below (bs:=vb::AU r.pa) ha) (fun k h=>.inl h);refine (hH_ B (some ⟨ib,0,none⟩) r.pn r.pc k wr.heap.size rowsI ⟨file,none,0,0⟩ _ ht hm (fun ad e=>by have:=(RI.block ad e).2;omega) (by omega) (by have:=ha.size;omega) (by omega)).mono ?_;rintro e w3 ⟨⟨a3,c3,rfl,R3,hD⟩,hh⟩;have h0:w.heap.size<=w3.heap.size:=Zl hJ (Zl ha.size hh.size);have hr:=ht.rowTy (m:=r.pn) (k:=r.pc);have hS:=hA.tyR hh hr (by decide);have hu:=hy.ty hh hr (by decide);have hL:=hx.ty hh hr (by decide);have hW:=hE.new (FrL.of_grown (bs:=AU r.pa) hh (fun k e=>.inl (by have:=gm_ e;first | exact this | (rw[hs];exact this)))) (fun k h=>.inl (ZY _ h));obtain⟨ab,hC,h9,_,_⟩:=R3.addr (by omega)
      have hF:ab∈AU r.pa∨w.heap.size<=ab:=by
       rcases hD _ hC with⟨ad,e1,e2⟩ | e1
       ·left;rw[aO_];exact⟨ad,by first | exact e1 | (rw[hs];exact e1),e2⟩
       ·right;have:=ha.size;simp only at e1;omega
      clear hr hh ha ht hA hy hx hm hE hD
      skip
      have y3b:w3.cell? ⟨vb,i*4+3,none⟩=some (.slice r.pa r.pn r.pc):=hu.cellAt hi rfl;obtain⟨cv,hf⟩:=hu.blkAt;have fv:=hf.frozen (i*4+3);rw[hC] at R3 ⊢;obtain⟨cc,hb⟩:=R3.blkAt;have hG:¬ ab=vb:=fun e=>by rw[e] at hb;unfold Blk at hb hf;rw[hb] at hf;injection hf with q;injection q with _ q2;exact absurd q2 (by decide)
      have hY:¬ vb=ab:=fun e=>hG e.symm;have hn:(rowsI.take k++[(⟨file,none,0,0⟩:IR)]++rowsI.drop k)[k]?=some ⟨file,none,0,0⟩:=by rw[ZC,Zv (by simp;omega)];simp[ZZ (show k<=rowsI.length by omega)]
      have x1b:w3.cell? ⟨ab,k*2+1,none⟩=some (.slice none 0 0):=R3.cellAt (j:=1) hn rfl;have f1b:=hb.frozen (k*2+1);have qf:(k:Int)<(r.pn:Int)+1:=by omega
      have qh:(0:Int)<=k:=by omega
      go_wp2;have hl:w3.grownBy (w3.setCell ⟨vb,i*4+3,none⟩ (.slice (some ⟨ab,0,none⟩) (r.pn+1) c3)) (some vb):=af_ (Yh _ _) _ _;have hO:=hu.set1 (x':=⟨r.id,r.nm,r.fx,some ⟨ab,0,none⟩,r.pn+1,c3⟩) (v:=.slice (some ⟨ab,0,none⟩) (r.pn+1) c3) a2_ hi (j:=3) (by decide) rfl;have R4:=R3.ty hl (aa_ hf) (by decide);have hU:=hS.tyR hl (aa_ hf) (by decide);have hM:=hL.ty hl (aa_ hf) (by decide);have hc:=hb.grown hl hG;have hX:=hW.new (FrL.of_grown (bs:=[vb]) hl (fun k e=>.inl (by cases e;simp))) (fun k hk=>.inl (by simp at hk;subst hk;simp));generalize w3.setCell ⟨vb,i*4+3,none⟩ (.slice (some ⟨ab,0,none⟩) (r.pn+1) c3)=w4 at *;have hp:w4.grownBy (w4.setCell ⟨ab,k*2+1,none⟩ (.slice a1 n1 c1)) (some ab):=af_ (Yh _ _) _ _;have R5:=R4.set1 (x':=⟨file,a1,n1,c1⟩) (v:=.slice a1 n1 c1) aI_ hn (j:=1) (by decide) rfl;rw[mN_ (by omega)] at R5;have hR:=hO.ty hp (aa_ hc) (by decide);have hN:=(hM.ty hp (aa_ hc) (by decide)).mono hBw;have hV:=(hU.tyR hp (aa_ hc) (by decide)).ins (k:=k) (r:=⟨file,a1,n1,c1⟩) (y:=⟨file,ps⟩) (by omega) ⟨rfl,hN⟩;have hB:=hX.new (FrL.of_grown (bs:=[ab]) hp (fun k e=>.inl (by cases e;simp))) (fun k hk=>by simp at hk;subst hk;exact hF.elim (fun h1=>.inl (ZY _ h1)) (fun h1=>.inr h1));go_returns;refine .inr ⟨ps,⟨r.id,r.nm,r.fx,some ⟨ab,0,none⟩,r.pn+1,c3⟩,ho,rfl,hR,⟨V.id,V.nm,V.fx,_,R5,?_⟩,hB,⟨fun ad e=>by cases e;exact hF,fun rs hw=>by rw[hs] at hw;rw[co_ (hw.below hj) RI.sl,cv_ (r:=⟨r.id,r.nm,r.fx,some ⟨ab,0,none⟩,r.pn+1,c3⟩) R5.sl];exact ko_ (fun ad e=>(R1.block ad e).1)⟩⟩;show AE _ _ _ (Ba ⟨file,ps⟩ y.its);rw[hI.out,<-hv.out];exact hV
    ·have qi:Hid (k+1<=plI y.its file):=hZ.1 h4;go_wp2;go_roundw
     case rel=>exact⟨k+1,by omega,by go_num,qi,trivial⟩
     case measure=>simp[intOf];omega
   ·have qq:Hid (k=r.pn):=by show _=_;omega
    have qd:¬ (k:Int)<r.pn:=by omega
    have h5:((k:Int)==(r.pn:Int))=true:=by simp;omega
    have hv:Hid (k=plI y.its file):=by have h1:=p0_ y.its file;have h2:=h6.out;show _=_;omega
    have hI:Hid (Ba ⟨file,ps⟩ y.its=y.its.take (plI y.its file)++[⟨file,ps⟩]++y.its.drop (plI y.its file)):=mM_ (x:=⟨file,ps⟩) hris (by show ∀ y',y.its[plI y.its file]?=some y'->_;rw[<-hv.out];intro y' e;have:=(Zb.1 e).1;omega)
    go_wp2_with fail
    have ha:Below wr.heap.size wr (wr.alloc (.cells #[.string file,.slice none 0 0] 125)):=(Yg _ _).alloc (Zd _) _;have ht:=RI.below ha;have hA:=TI.below ha;have hy:=RV.below ha;have hx:=R1.below ha;have hm:=Blk.new wr #[.string file,.slice none 0 0] 125;have hE:=(FrL.of_below hj).new (FrL.of_below (bs:=vb::AU r.pa) ha) (fun k h=>.inl h);refine (hH_ B r.pa r.pn r.pc k wr.heap.size rowsI ⟨file,none,0,0⟩ _ ht hm (fun ad e=>by have:=(RI.block ad e).2;omega) (by omega) (by have:=ha.size;omega) (by omega)).mono ?_;rintro e w3 ⟨⟨a3,c3,rfl,R3,hD⟩,hh⟩;have h0:w.heap.size<=w3.heap.size:=Zl hJ (Zl ha.size hh.size);have hr:=ht.rowTy (m:=r.pn) (k:=r.pc);have hS:=hA.tyR hh hr (by decide);have hu:=hy.ty hh hr (by decide);have hL:=hx.ty hh hr (by decide);have hW:=hE.new (FrL.of_grown (bs:=AU r.pa) hh (fun k e=>.inl (by have:=gm_ e;exact this))) (fun k h=>.inl (ZY _ h));obtain⟨ab,hC,h9,_,_⟩:=R3.addr (by omega)
    have hF:ab∈AU r.pa∨w.heap.size<=ab:=by
     rcases hD _ hC with⟨ad,e1,e2⟩ | e1
     ·left;rw[aO_];exact⟨ad,e1,e2⟩
     ·right;have:=ha.size;simp only at e1;omega
    clear hr hh ha ht hA hy hx hm hE hD
    skip
    have y3b:w3.cell? ⟨vb,i*4+3,none⟩=some (.slice r.pa r.pn r.pc):=hu.cellAt hi rfl;obtain⟨cv,hf⟩:=hu.blkAt;have fv:=hf.frozen (i*4+3);rw[hC] at R3 ⊢;obtain⟨cc,hb⟩:=R3.blkAt;have hG:¬ ab=vb:=fun e=>by rw[e] at hb;unfold Blk at hb hf;rw[hb] at hf;injection hf with q;injection q with _ q2;exact absurd q2 (by decide)
    have hY:¬ vb=ab:=fun e=>hG e.symm;have hn:(rowsI.take k++[(⟨file,none,0,0⟩:IR)]++rowsI.drop k)[k]?=some ⟨file,none,0,0⟩:=by rw[ZC,Zv (by simp;omega)];simp[ZZ (show k<=rowsI.length by omega)]
    have x1b:w3.cell? ⟨ab,k*2+1,none⟩=some (.slice none 0 0):=R3.cellAt (j:=1) hn rfl;have f1b:=hb.frozen (k*2+1);have qf:(k:Int)<(r.pn:Int)+1:=by omega
    have qh:(0:Int)<=k:=by omega
    go_wp2;have hl:w3.grownBy (w3.setCell ⟨vb,i*4+3,none⟩ (.slice (some ⟨ab,0,none⟩) (r.pn+1) c3)) (some vb):=af_ (Yh _ _) _ _;have hO:=hu.set1 (x':=⟨r.id,r.nm,r.fx,some ⟨ab,0,none⟩,r.pn+1,c3⟩) (v:=.slice (some ⟨ab,0,none⟩) (r.pn+1) c3) a2_ hi (j:=3) (by decide) rfl;have R4:=R3.ty hl (aa_ hf) (by decide);have hU:=hS.tyR hl (aa_ hf) (by decide);have hM:=hL.ty hl (aa_ hf) (by decide);have hc:=hb.grown hl hG;have hX:=hW.new (FrL.of_grown (bs:=[vb]) hl (fun k e=>.inl (by cases e;simp))) (fun k hk=>.inl (by simp at hk;subst hk;simp));generalize w3.setCell ⟨vb,i*4+3,none⟩ (.slice (some ⟨ab,0,none⟩) (r.pn+1) c3)=w4 at *;have hp:w4.grownBy (w4.setCell ⟨ab,k*2+1,none⟩ (.slice a1 n1 c1)) (some ab):=af_ (Yh _ _) _ _;have R5:=R4.set1 (x':=⟨file,a1,n1,c1⟩) (v:=.slice a1 n1 c1) aI_ hn (j:=1) (by decide) rfl;rw[mN_ (by omega)] at R5;have hR:=hO.ty hp (aa_ hc) (by decide);have hN:=(hM.ty hp (aa_ hc) (by decide)).mono hBw;have hV:=(hU.tyR hp (aa_ hc) (by decide)).ins (k:=k) (r:=⟨file,a1,n1,c1⟩) (y:=⟨file,ps⟩) (by omega) ⟨rfl,hN⟩;have hB:=hX.new (FrL.of_grown (bs:=[ab]) hp (fun k e=>.inl (by cases e;simp))) (fun k hk=>by simp at hk;subst hk;exact hF.elim (fun h1=>.inl (ZY _ h1)) (fun h1=>.inr h1));go_returns;refine .inr ⟨ps,⟨r.id,r.nm,r.fx,some ⟨ab,0,none⟩,r.pn+1,c3⟩,ho,rfl,hR,⟨V.id,V.nm,V.fx,_,R5,?_⟩,hB,⟨fun ad e=>by cases e;exact hF,fun rs hw=>by rw[co_ (hw.below hj) RI.sl,cv_ (r:=⟨r.id,r.nm,r.fx,some ⟨ab,0,none⟩,r.pn+1,c3⟩) R5.sl];exact ko_ (fun ad e=>(R1.block ad e).1)⟩⟩;show AE _ _ _ (Ba ⟨file,ps⟩ y.its);rw[hI.out,<-hv.out];exact hV
theorem jr_ (B:Nat)(its:List It)(pa:Option Addr)(pn pc:Nat)(ea:Option Addr)(en ec:Nat)(e:List Ex)(w:World)(h:Bg B w pa pn its)(he:Bf w ea en e)(hstr:BS e)(hen:en<=4194304)(hpn:pn<=4194304)(hI:Gq its):
  Calls prog 159 #[.slice pa pn pc,.slice ea en ec] w fun x w'=>x=.returned (.bool (itemsB its e))∧Below w.heap.size w w':=by
 have hm:Hid (its.length=pn):=h.len;have hR:Hid (itemsB its e=(decide (its.length<=5)&&igo e none its)):=rfl;generalize itemsB its e=R at *;by_cases h5:pn<=5
 ·rw[hm.out,decide_eq_true h5,Zp] at hR;go_enter func159,ntmps159
  go_wp2_with fail
  go_loopw [14] (fun ix wr=>∃ (k:Nat),k<=pn∧ix=.int .i64 k∧Hid (R=igo e (B9 its k) (its.drop k))∧Below w.heap.size w wr) (fun ix _=>pn-(intOf ix).toNat)
  case atStart=>exact⟨0,Zg _,rfl,hR,Yg _ _⟩
  case round=>
   obtain⟨k,hk,rfl,hv,hB⟩:=hrel;by_cases hlt:k<pn
   ·obtain⟨b,o,x,qa,qn,qc,rfl,hx,c0,c1,hP,_,_,_⟩:=bO_ (h.below hB) hlt
    have hc:Hid (R=(nameB x.nm&&(match B9 its k with | none=>true | some p=>bl p.nm.toList x.nm.toList)&&(Ak x.ps e).isSome&&igo e (B9 its (k+1)) (its.drop (k+1)))):=by
     show _=_;rw[hv.out,al_ hx,hB_,hx];rfl
    obtain⟨m1,m2⟩:=hI x (Zc hx);have hs:x.ps.length=qn:=hP.len;rw[hs] at m2;have hz:(k:Int)<pn:=by omega
    have hA:(0:Int)<=k:=by omega
    have ho:0<k->∃ y,B9 its k=some y∧wr.cell? ⟨b,o+(k-1)*2,none⟩=some (.string y.nm):=fun h0=>by
     obtain⟨b',o',y,_,_,_,ht,hy,d0,_⟩:=bO_ (h.below hB) (show k-1<pn by omega);obtain⟨rfl,rfl⟩:b=b'∧o=o':=by simpa using ht
     exact⟨y,by unfold B9;rw[if_neg (by omega)];exact hy,d0⟩
    have hb:∀ u:World,Below wr.heap.size wr u->Below w.heap.size w u:=fun u hu=>Aa hB hu;clear hx hv hs;have hf:=fun u:World=>bT_ x.nm u m1;have hp:Below wr.heap.size wr (wr.alloc (.cells #[.string x.nm,.slice qa qn qc] 125)):=by go_grown
    have X:=Blk.new wr #[.string x.nm,.slice qa qn qc] 125;have X1:(wr.alloc (.cells #[.string x.nm,.slice qa qn qc] 125)).cell? ⟨wr.heap.size,1,none⟩=some (.slice qa qn qc):=X.cell 1;have x0:∀ g:Grw (wr.alloc (.cells #[.string x.nm,.slice qa qn qc] 125)),g.w.cell? ⟨wr.heap.size,0,none⟩=some (.string x.nm):=Ad (X.cell 0);have hD:=aA_ (wr.alloc (.cells #[.string x.nm,.slice qa qn qc] 125))
    cases hn:nameB x.nm
    ·rw[hn] at hc
     go_wp2_with fail
     refine ab_ (by kernel_rfl) (by kernel_rfl) ?_
     repeat (go_big_quiet_step (first | (go_at_call 158;have qq:=hf;rw[hn] at qq;exact am_ (qq _))))
     refine wpQuiet_nil ?_;intro w2 hx;have hg:=Aa hp (ah_ hx);clear hx;go_wp2;go_returns;exact⟨by rw[hc.out];simp,hb _ hg⟩
    ·rw[hn,Zp] at hc;have hl:∀ w2:World,Below (wr.alloc (.cells #[.string x.nm,.slice qa qn qc] 125)).heap.size (wr.alloc (.cells #[.string x.nm,.slice qa qn qc] 125)) w2->Below wr.heap.size wr w2∧w2.cell? ⟨wr.heap.size,1,none⟩=some (.slice qa qn qc):=fun w2 h2=>⟨Aa hp h2,Ab h2 X1⟩;by_cases hk0:0<k
     ·obtain⟨y,hy,d0⟩:=ho hk0;have y0:=Ad (Ab hp d0);rw[hy] at hc;have hq:decide ((0:Int)<(k:Int))=true:=decide_eq_true (by omega);have hC:((k:Int)-1).toNat=k-1:=by omega
      cases hr:bl y.nm.toList x.nm.toList
      ·simp only[hr,Zr] at hc
       go_wp2_with fail
       refine ab_ (by kernel_rfl) (by kernel_rfl) ?_
       repeat (go_big_quiet_step (first | (go_at_call 158;have qq:=hf;rw[hn] at qq;exact am_ (qq _))))
       refine wpQuiet_nil ?_;intro w2 hx;obtain⟨hg,x1'⟩:=hl _ (ah_ hx);clear hx;go_wp2;go_returns;exact⟨by rw[hc.out];rfl,hb _ hg⟩
      ·simp only[hr,Zp] at hc
       go_wp2_with fail
       refine ab_ (by kernel_rfl) (by kernel_rfl) ?_
       repeat (go_big_quiet_step (first | (go_at_call 158;have qq:=hf;rw[hn] at qq;exact am_ (qq _))))
       refine wpQuiet_nil ?_;intro w2 hx;obtain⟨hg,x1'⟩:=hl _ (ah_ hx);clear hx
       go_wp2_with fail
       refine (fO_ qa qn qc x.ps ea en ec e _ (hP.below hg) (he.below (hb _ hg)) hstr m2 hen).mono ?_;rintro e1 w3 ⟨ha,hh⟩;replace hh:=Aa hg hh
       cases hj:Ak x.ps e with
       |none=>
        rw[hj] at ha hc;replace ha:e1=.returned (.tuple #[.string ⟨#[]⟩,.bool false]):=ha;subst ha;clear hj;go_wp2;go_returns;exact⟨by rw[hc.out];rfl,hb _ hh⟩
       |some s=>
        rw[hj] at ha hc;replace ha:e1=.returned (.tuple #[.string s,.bool true]):=ha;subst ha;clear hj;go_wp2;go_roundw
        case rel=>exact⟨k+1,by omega,by go_num,by show _=_;rw[hc.out];rfl,hb _ hh⟩
        case measure=>simp[intOf];omega
     ·have hw:B9 its k=none:=by unfold B9;rw[if_pos (by omega)]
      have hq:decide ((0:Int)<(k:Int))=false:=YV (by omega);rw[hw] at hc;simp only[Zp] at hc
      go_wp2_with fail
      refine ab_ (by kernel_rfl) (by kernel_rfl) ?_
      repeat (go_big_quiet_step (first | (go_at_call 158;have qq:=hf;rw[hn] at qq;exact am_ (qq _))))
      refine wpQuiet_nil ?_;intro w2 hx;obtain⟨hg,x1'⟩:=hl _ (ah_ hx);clear hx
      go_wp2_with fail
      refine (fO_ qa qn qc x.ps ea en ec e _ (hP.below hg) (he.below (hb _ hg)) hstr m2 hen).mono ?_;rintro e1 w3 ⟨ha,hh⟩;replace hh:=Aa hg hh
      cases hj:Ak x.ps e with
      |none=>
       rw[hj] at ha hc;replace ha:e1=.returned (.tuple #[.string ⟨#[]⟩,.bool false]):=ha;subst ha;clear hj;go_wp2;go_returns;exact⟨by rw[hc.out];rfl,hb _ hh⟩
      |some s=>
       rw[hj] at ha hc;replace ha:e1=.returned (.tuple #[.string s,.bool true]):=ha;subst ha;clear hj;go_wp2;go_roundw
       case rel=>exact⟨k+1,by omega,by go_num,by show _=_;rw[hc.out];rfl,hb _ hh⟩
       case measure=>simp[intOf];omega
   ·obtain rfl:k=pn:=by omega
    go_wp2;go_returns;exact⟨by rw[hv.out,Ze (Zm hm.out)];rfl,hB⟩
 ·rw[hm.out,YV h5,Zr] at hR;go_enter func159,ntmps159;go_wp2;go_returns;exact⟨by rw[hR.out];rfl,Yg _ _⟩
theorem kC_ (B:Nat)(size next:Int)(ea:Option Addr)(en ec:Nat)(va:Option Addr)(vn vc:Nat)(ra:Option Addr)(rn rc:Nat)(la:Option Addr)(ln lc:Nat)(ex:List Ex)(vs:List Vo)(w:World)(h1:Bf w ea en ex)(h2:Bb B w va vn vs)(z1:en<=4194304)(z2:BS ex)(z3:vn<=4194304)(z4:DS vs):
  Calls prog 100 #[.agg #[.int .i64 size,.int .i64 next,.slice ea en ec,.slice va vn vc,.slice ra rn rc,.slice la ln lc]] w fun x w'=>x=.returned (.bool (CQ next vs ex))∧Below w.heap.size w w':=by
 have he:Hid (vs.length=vn):=h2.len;have hR:Hid (CQ next vs ex=(decide (vs.length<=6)&&vgo next ex 0 vs)):=rfl;generalize CQ next vs ex=R at *;by_cases h6:vn<=6
 ·rw[he.out,decide_eq_true h6,Zp] at hR;go_enter func100,ntmps100;have C:=Blk.new w #[.int .i64 size,.int .i64 next,.slice ea en ec,.slice va vn vc,.slice ra rn rc,.slice la ln lc] 35
  go_wp2_with fail
  have hg:Below w.heap.size w (w.alloc (.cells #[.int .i64 size,.int .i64 next,.slice ea en ec,.slice va vn vc,.slice ra rn rc,.slice la ln lc] 35)):=by go_grown
  generalize w.alloc (.cells #[.int .i64 size,.int .i64 next,.slice ea en ec,.slice va vn vc,.slice ra rn rc,.slice la ln lc] 35)=W0 at *
  go_loopw [3,13] (fun lx ix wr=>∃ (k:Nat) (last:Int),k<=vn∧ix=.int .i64 k∧lx=.int .i64 last∧Hid (R=vgo next ex last (vs.drop k))∧Blk wr w.heap.size #[.int .i64 size,.int .i64 next,.slice ea en ec,.slice va vn vc,.slice ra rn rc,.slice la ln lc] 35∧Below w.heap.size w wr) (fun _ ix _=>vn-(intOf ix).toNat)
  case atStart=>exact⟨0,0,Zg _,rfl,rfl,hR,C,hg⟩
  case round=>
   clear hR C hg;obtain⟨k,last,hk,rfl,rfl,hI,C,hB⟩:=hrel;have d1:=C.cell 1;have d2:=C.cell 2;simp only[lgA,lgB,lgC] at d1 d2;by_cases hlt:k<vn
   ·obtain⟨b,o,x,qa,qn,qc,rfl,hx,e0,e1,e2,e3,hP,_,_⟩:=b5_ (h2.below hB) hlt
    have ha:Hid (R=(decide (last<x.id)&&decide (x.id<next)&&nameB x.nm&&itemsB x.its ex&&vgo next ex x.id (vs.drop (k+1)))):=by
     show _=_;rw[hI.out,al_ hx];rfl
    obtain⟨m1,m2,m3⟩:=z4 x (Zc hx);rw[hP.len] at m2;have hj:(k:Int)<vn:=by omega
    have hl:(0:Int)<=k:=by omega
    clear hx hI;have hc:Below wr.heap.size wr (wr.alloc (.cells #[.int .i64 x.id,.string x.nm,.bool x.fx,.slice qa qn qc] 62)):=by go_grown
    have X:=Blk.new wr #[.int .i64 x.id,.string x.nm,.bool x.fx,.slice qa qn qc] 62;have d1':=Ab hc d1;have d2':=Ab hc d2;clear d1 d2;by_cases hid:last<x.id
    ·by_cases hnb:x.id<next
     ·rw[decide_eq_true hid,decide_eq_true hnb,Zp,Zp] at ha
      cases hf:nameB x.nm
      ·rw[hf] at ha
       go_wp2_with fail
       refine (bT_ x.nm _ m1).mono ?_;rintro e w2 ⟨rfl,rfl⟩;rw[hf];go_wp2;go_returns;exact⟨by rw[ha.out];rfl,Aa hB hc⟩
      ·rw[hf,Zp] at ha
       go_wp2_with fail
       refine (bT_ x.nm _ m1).mono ?_;rintro e w2 ⟨rfl,rfl⟩;rw[hf]
       go_wp2_with fail
       refine (jr_ B x.its qa qn qc ea en ec ex _ (hP.below hc) ((h1.below hB).below hc) z2 z1 m2 m3).mono ?_;rintro e w2 ⟨rfl,hb⟩;have X2:=(X.below hb).cell 0;simp only[Yp,Yo] at X2;replace hb:=Aa hc hb;have C2:=C.below hb;replace hb:=Aa hB hb
       cases hh:itemsB x.its ex
       ·rw[hh] at ha;go_wp2;go_returns;exact⟨by rw[ha.out];rfl,hb⟩
       ·rw[hh,Zp] at ha;go_wp2;go_roundw
        case rel=>exact⟨k+1,x.id,by omega,by go_num,rfl,ha,C2,hb⟩
        case measure=>simp[intOf];omega
     ·rw[YV hnb] at ha;simp only[Bool.and_false,Zr] at ha;go_wp2;go_returns;exact⟨by rw[ha.out];rfl,Aa hB hc⟩
    ·rw[YV hid] at ha;simp only[Zr] at ha;go_wp2;go_returns;exact⟨by rw[ha.out];rfl,Aa hB hc⟩
   ·obtain rfl:k=vn:=by omega
    go_wp2;go_returns;exact⟨by rw[hI.out,Ze (Zm he.out)];rfl,hB⟩
 ·rw[he.out,YV h6,Zr] at hR;go_enter func100,ntmps100;go_wp2;go_returns;exact⟨by rw[hR.out];rfl,by go_grown⟩
end
section
open Go.Shelf Go.RowKit Go.Lib Go.Sort Tryz
def iP_:Go.Shelf.Ren:=⟨fun | 6=>182 | 15=>220 | 14=>219 | 28=>240 | 29=>241 | 20=>232 | 21=>233 | 22=>234 | 23=>235 | 24=>236 | 25=>237 | 26=>238 | 27=>239 | 46=>249 | 47=>250 | 48=>251 | 49=>252 | 50=>253 | 57=>256 | n=>n,fun | 22=>33 | 24=>80 | 25=>261 | 3=>3 | 39=>284 | 0=>0 | 53=>330 | 55=>282 | 4=>4 | 46=>323 | 45=>322 | 50=>327 | 5=>5 | 9=>9 | 66=>339 | 70=>342 | 76=>344 | 77=>345 | n=>n,fun | n=>n⟩
theorem HD:SlLaysF0.n6 prog iP_ where
 mixed:=by kernel_rfl
 f6:=⟨Tryz.f182.name,by decide +kernel,func182.trans (congrArg some (by kernel_rfl))⟩
 f14:=⟨Tryz.f219.name,by decide +kernel,func219.trans (congrArg some (by kernel_rfl))⟩
 f15:=func220.trans (congrArg some (by kernel_rfl))
 f20:=⟨Tryz.f232.name,by decide +kernel,func232.trans (congrArg some (by kernel_rfl))⟩
 f21:=⟨Tryz.f233.name,by decide +kernel,func233.trans (congrArg some (by kernel_rfl))⟩
 f22:=⟨Tryz.f234.name,by decide +kernel,func234.trans (congrArg some (by kernel_rfl))⟩
 f23:=⟨Tryz.f235.name,by decide +kernel,func235.trans (congrArg some (by kernel_rfl))⟩
 f24:=⟨Tryz.f236.name,by decide +kernel,func236.trans (congrArg some (by kernel_rfl))⟩
 f25:=⟨Tryz.f237.name,by decide +kernel,func237.trans (congrArg some (by kernel_rfl))⟩
 f26:=⟨Tryz.f238.name,by decide +kernel,func238.trans (congrArg some (by kernel_rfl))⟩
 f27:=⟨Tryz.f239.name,by decide +kernel,func239.trans (congrArg some (by kernel_rfl))⟩
 f28:=func240.trans (congrArg some (by kernel_rfl))
 f29:=func241.trans (congrArg some (by kernel_rfl))
 f46:=⟨Tryz.f249.name,by decide +kernel,func249.trans (congrArg some (by kernel_rfl))⟩
 f47:=func250.trans (congrArg some (by kernel_rfl))
 f48:=func251.trans (congrArg some (by kernel_rfl))
 f49:=⟨Tryz.f252.name,by decide +kernel,func252.trans (congrArg some (by kernel_rfl))⟩
 f50:=⟨Tryz.f253.name,by decide +kernel,func253.trans (congrArg some (by kernel_rfl))⟩
 f57:=⟨Tryz.f256.name,by decide +kernel,func256.trans (congrArg some (by kernel_rfl))⟩
 t0:=underlying0
 a0:=Tryz.isAgg0
 z0:=Tryz.sizeOf0
 v0:=Tryz.zeroValue0
 t3:=underlying3
 a3:=Tryz.isAgg3
 z3:=Tryz.sizeOf3
 v3:=Tryz.zeroValue3
 t4:=underlying4
 a4:=Tryz.isAgg4
 z4:=Tryz.sizeOf4
 v4:=Tryz.zeroValue4
 t5:=underlying5
 a5:=Tryz.isAgg5
 z5:=Tryz.sizeOf5
 v5:=Tryz.zeroValue5
 t9:=underlying9
 a9:=Tryz.isAgg9
 z9:=Tryz.sizeOf9
 v9:=Tryz.zeroValue9
 t22:=underlying33
 a22:=Tryz.isAgg33
 z22:=Tryz.sizeOf33
 v22:=Tryz.zeroValue33
 t25:=underlying261
 a25:=Tryz.isAgg261
 z25:=Tryz.sizeOf261
 v25:=Tryz.zeroValue261
 t39:=underlying284
 a39:=Tryz.isAgg284
 z39:=Tryz.sizeOf284
 v39:=Tryz.zeroValue284
 t45:=underlying322
 a45:=Tryz.isAgg322
 z45:=Tryz.sizeOf322
 v45:=Tryz.zeroValue322
 t46:=underlying323
 a46:=Tryz.isAgg323
 z46:=Tryz.sizeOf323
 v46:=Tryz.zeroValue323
 t50:=underlying327
 a50:=Tryz.isAgg327
 z50:=Tryz.sizeOf327
 v50:=Tryz.zeroValue327
 t53:=underlying330
 a53:=Tryz.isAgg330
 z53:=Tryz.sizeOf330
 v53:=Tryz.zeroValue330
 t55:=underlying282
 a55:=Tryz.isAgg282
 z55:=Tryz.sizeOf282
 v55:=Tryz.zeroValue282
 t66:=underlying339
 a66:=Tryz.isAgg339
 z66:=Tryz.sizeOf339
 v66:=Tryz.zeroValue339
 t70:=underlying342
 a70:=Tryz.isAgg342
 z70:=Tryz.sizeOf342
 v70:=Tryz.zeroValue342
 t76:=underlying344
 a76:=Tryz.isAgg344
 z76:=Tryz.sizeOf344
 v76:=Tryz.zeroValue344
 t77:=underlying345
 a77:=Tryz.isAgg345
 z77:=Tryz.sizeOf345
 v77:=Tryz.zeroValue345
end
section
open Go.ChangeMaps Go.MapKept Go.WideElems
open Go.Maps (Keyed)
variable{H α:Type}{b:Nat}{P:Program}{e k t:TypeId}{w:World}
theorem js_ {R:Value->Option (DataW H×List MemPlace)}{es:Array MapEntry}{clock:Nat}(K:WideMaps.KeyLaw P k)(ht:P.underlying t=some (.map k e)){z:Value}(hz:∀ u:World,(zeroValue e).run P u=.ok z u)(hb:w.heap[b]?=some (.map es clock))(F:Fit P k R es clock)
  {key:Value}{kl:Lit}(hkey:keyOf P k key=some kl):
  ∃ (v0:Value) (st:Value) (w1:World),(Instr.mapEntry t (.map (some b)) key).run P w=.ok (.tuple #[v0,st]) w1∧(Instr.mapUpdate t (.map (some b)) key v0).run P w=.ok () w1∧(Instr.lookup t (.map (some b)) key false).run P w=.ok v0 w:=by
 rcases K.find w hkey es.toList F.keys with⟨h1,h2⟩ | ⟨j,e0,h1,h2,h3⟩
 ·refine⟨z,goInt clock,setBlock w b (.map (es.push ⟨key,z,clock⟩) (clock+1)),?_,?_,?_⟩
  ·simp[Instr.mapEntry,YY ht,MapKept.run_getObj_map hb,K.check w false hkey,h1,hz,MapKept.run_setObj_map _ hb,Result.andThen,setBlock]
  ·simp[Instr.mapUpdate,YY ht,MapKept.run_getObj_map hb,K.check w false hkey,h1,MapKept.run_setObj_map _ hb,Result.andThen,setBlock]
  ·simp[Instr.lookup,YY ht,MapKept.run_getObj_map hb,K.check w _ hkey,h1,hz,Result.andThen]
 ·have hj:es[j]?=some e0:=by simpa using h2
  have hc:es.modify j (fun e=>{e with key:=key})=es:=by
   apply Array.ext';rw[Array.toList_modify,modify_eq_set _ _ _ _ h2]
   have:({e0 with key:=key}:MapEntry)=e0:=by rw[<-h3]
   rw[this];exact set_self _ _ _ h2
  have ha:es.modify j (fun e'=>{e' with key:=key,val:=e0.val})=es:=by
   apply Array.ext';rw[Array.toList_modify,modify_eq_set _ _ _ _ h2]
   have:({e0 with key:=key,val:=e0.val}:MapEntry)=e0:=by rw[<-h3]
   rw[this];exact set_self _ _ _ h2
  refine⟨e0.val,goInt e0.born,setBlock w b (.map es clock),?_,?_,?_⟩
  ·simp[Instr.mapEntry,YY ht,MapKept.run_getObj_map hb,K.check w false hkey,h1,hj,h3,K.stays w hkey,hc,MapKept.run_setObj_map _ hb,Result.andThen,setBlock]
  ·simp[Instr.mapUpdate,YY ht,MapKept.run_getObj_map hb,K.check w false hkey,h1,hj,h3,K.stays w hkey,ha,MapKept.run_setObj_map _ hb,Result.andThen,setBlock]
  ·simp[Instr.lookup,YY ht,MapKept.run_getObj_map hb,K.check w _ hkey,h1,Result.andThen]
theorem g5_ {m:Sem α}{x y:α}{u v:World}(h:m.run P w=.ok x u)(h':m.run P w=.ok y v):x=y∧u=v:=by
 rw[h] at h'
 cases h'
 exact⟨rfl,rfl⟩
theorem et_ (w:World)(b:Nat)(x y:Obj):setBlock (setBlock w b x) b y=setBlock w b y:=by
 simp[setBlock]
theorem nr_ {q:IntKind}{n:Nat}{D:DataW H}(h:w.ownsMap P k (plainElem P e) b n D)(K:WideMaps.KeyLaw P k)(ht:P.underlying t=some (.map k e))(he:P.underlying e=some (.int q))(hz:∀ u:World,(zeroValue e).run P u=.ok (.int q 0) u)(hn:n+1<maxLen)
  {key:Value}{kl:Lit}(hkey:keyOf P k key=some kl):
  ∃ (c:Int) (st:Nat) (w1:World),(Instr.lookup t (.map (some b)) key false).run P w=.ok (.int q c) w∧D.atKey kl (.lit (.int q 0))=.lit (.int q c)∧(Lit.int q c).wf=true∧
   (Instr.mapEntry t (.map (some b)) key).run P w=.ok (.tuple #[.int q c,.int .i64 st]) w1∧(Instr.lookup t (.map (some b)) key false).run P w1=.ok (.int q c) w1∧w.grownBy w1 (some b)∧w1.heap.size=w.heap.size∧
   ∀ x:Int,(Lit.int q x).wf=true->∃ w3,(Instr.entryStore t (.map (some b)) (.int .i64 st) (.int q x)).run P w1=.ok () w3∧w3.ownsMap P k (plainElem P e) b (n+1) (D.put kl (.lit (.int q x)))∧w.grownBy w3 (some b)∧w3.heap.size=w.heap.size:=by
 have K':=Keyed.of_law K;have h0:=h;obtain⟨es,clock,hb,F,hs,hD⟩:=h;obtain⟨c,hl,hj,hc⟩:=h0.lookup_int K' ht he (hz w) hkey;obtain⟨v0,st',hu,hf,hh,hg⟩:=js_ K ht hz hb F hkey;obtain⟨v1,st,es1,clock1,hE,_,hS⟩:=entry_then_store K ht hz hb F hkey;obtain⟨rfl,_⟩:=g5_ hg hl;obtain⟨e1,rfl⟩:=g5_ hf hE;obtain⟨rfl,rfl⟩:Value.int q c=v1∧st'=goInt st:=by simpa using e1
 obtain⟨u1,hp,own1,g1⟩:=h0.update K' ht (by omega) hkey (plainElem_int he hc);obtain⟨_,rfl⟩:=g5_ hh hp;obtain⟨c',hm,ha,_⟩:=own1.lookup_int K' ht he (hz _) hkey
 have hk:c'=c:=by
  rw[Maps.atKey_put_same h0.isMap (K'.key hkey)] at ha;injection ha with e2;injection e2 with _ e3;exact e3.symm
 subst hk;refine⟨c',st,_,hl,hj,hc,hE,hm,g1,by simp[setBlock],fun x hx=>?_⟩;obtain⟨es',clock',ho,hr⟩:=hS (setBlock w b (.map es1 clock1)) (.int q x) (heap_setBlock_same hb _);obtain⟨u2,hq,own2,g2⟩:=h0.update K' ht (by omega) hkey (plainElem_int he hx);obtain⟨_,rfl⟩:=g5_ hr hq;refine⟨_,ho,?_,?_,?_⟩
 ·rw[et_];exact own2
 ·rw[et_];exact g2
 ·simp[setBlock]
end
section
open Go Go.RowKit Go.BigFrame Tryz
open Go.Maps (Keyed)
variable{b n:Nat}{o:Ow}{w:World}
structure WfO (o:Ow):Prop where
 a:(Lit.int .i64 o.a).wf=true
 v:(Lit.int .i64 o.v).wf=true
 f:o.f.size<=maxLen
theorem HU:(78:TypeId)<prog.types.size:=of_decide_eq_true (by kernel_rfl)
theorem HG:(match prog.underlying 78 with | some (.array _ _) | some (.struct _)=>true | _=>false)=true:=by kernel_rfl
theorem HR:WideMaps.KeyLaw prog 78:=deep_law_laid Ho (m:=3) (by omega) HU (by kernel_rfl) HG
theorem FV:Keyed prog 78:=Keyed.of_law HR
def vO (o:Ow):Value:=.agg #[.int .i64 o.a,.int .i64 o.v,.string o.f]
def klO (o:Ow):Lit:=.string (keyBytes [.int .i64 o.a,.int .i64 o.v,.string o.f.data.toList])
theorem GX (h:WfO o):keyOf prog 78 (vO o)=some (klO o):=by
 obtain⟨a,v,f⟩:=o;obtain⟨h1,h2,h3⟩:=h;have hk:prog.keyType 78=true:=by kernel_rfl
 have hc:prog.cellsOf 78=3:=by kernel_rfl
 have ha:prog.cellsOf 2=1:=by kernel_rfl
 have hb:prog.cellsOf 9=1:=by kernel_rfl
 obtain⟨d,hd⟩:=Nat.exists_eq_succ_of_ne_zero (Nat.ne_of_gt (Nat.zero_lt_of_lt HU));unfold keyOf vO klO;rw[hd]
 have k2:∀ x:Int,(Lit.int .i64 x).wf=true->prog.keyLits d.succ 2 [.int .i64 x]=some [.int .i64 x]:=fun x hx=>by
  unfold Program.keyLits;simp only[underlying2];rw[if_pos ⟨trivial,hx⟩]
 have k9:prog.keyLits d.succ 9 [.string f]=some [.string f.data.toList]:=by
  unfold Program.keyLits;simp only[underlying9];rw[if_pos h3]
 have e1:=k2 a h1;have e2:=k2 v h2;clear k2 hd;generalize d.succ=D at *;simp only[underlying78,hk,Value.formed,hc,Value.cells];rw[if_pos (by rfl)];unfold Program.keyLits;simp only[underlying78,hc];rw[if_pos (by exact⟨rfl,by decide +kernel⟩)];simp[ha,hb,e1,e2,k9]
theorem mO_ {o':Ow}(h:WfO o)(h':WfO o')(e:klO o=klO o'):o=o':=by
 have h1:=GX h;have h2:=GX h';rw[<-e] at h2
 have:=HR.inj h1 h2
 simp[vO] at this;obtain⟨a,v,f⟩:=o;obtain⟨a',v',f'⟩:=o';simp at this;simp[this]
def A0 (w:World)(b n:Nat)(f:Ow->Int):Prop:=
 ∃ D:DataW Unit,w.ownsMap prog 78 (plainElem prog 2) b n D∧∀ o,WfO o->D.atKey (klO o) (.lit (.int .i64 0))=.lit (.int .i64 (f o))
theorem HH (w:World):(zeroValue 2).run prog w=.ok (.int .i64 0) w:=by kernel_rfl
theorem A0.lt {f:Ow->Int}(h:A0 w b n f):b<w.heap.size:=by
 obtain⟨D,h,_⟩:=h;exact h.lt
theorem A0.mono {n':Nat}{f:Ow->Int}(h:A0 w b n f)(hn:n<=n'):A0 w b n' f:=by
 obtain⟨D,h,h2⟩:=h;exact⟨D,h.mono hn,h2⟩
theorem A0.kept {w':World}{f:Ow->Int}{row:Option Nat}(h:A0 w b n f)(hg:w.grownBy w' row)(hne:some b≠row):A0 w' b n f:=by
 obtain⟨D,h,h2⟩:=h;exact⟨D,h.kept hg hne,h2⟩
theorem A0.apart {f:Ow->Int}(h:A0 w b n f){bb o:Nat}{v:Value}(hc:w.cell? ⟨bb,o,none⟩=some v):bb≠b:=by
 obtain⟨D,⟨es,clock,hb,_⟩,_⟩:=h;rintro rfl;simp[World.cell?,hb] at hc
theorem A0.made (w:World):A0 (w.alloc (.map #[] 0)) w.heap.size 0 (fun _=>0):=
 ⟨_,World.ownsMap_made _ _ _ _,fun _ _=>rfl⟩
theorem A0.congr {f g:Ow->Int}(h:A0 w b n f)(e:∀ o,f o=g o):A0 w b n g:=by
 obtain⟨D,h,h2⟩:=h;exact⟨D,h,fun o ho=>by rw[h2 o ho,e]⟩
theorem A0.entry {f:Ow->Int}(h:A0 w b n f)(hn:n+1<maxLen)(ho:WfO o):
  ∃ (st:Nat) (w1:World),(Instr.lookup 166 (.map (some b)) (.agg #[.int .i64 o.a,.int .i64 o.v,.string o.f]) false).run prog w=.ok (.int .i64 (f o)) w∧
   (Instr.mapEntry 166 (.map (some b)) (.agg #[.int .i64 o.a,.int .i64 o.v,.string o.f])).run prog w=.ok (.tuple #[.int .i64 (f o),.int .i64 st]) w1∧(Instr.lookup 166 (.map (some b)) (.agg #[.int .i64 o.a,.int .i64 o.v,.string o.f]) false).run prog w1=.ok (.int .i64 (f o)) w1∧w.grownBy w1 (some b)∧
   ∀ x:Int,(Lit.int .i64 x).wf=true->∃ w3,(Instr.entryStore 166 (.map (some b)) (.int .i64 st) (.int .i64 x)).run prog w1=.ok () w3∧A0 w3 b (n+1) (fun o'=>if Bz o o'=true then x else f o')∧w.grownBy w3 (some b):=by
 obtain⟨D,ha,hv⟩:=h;obtain⟨c,st,w1,h1,h2,_,h4,h5,h6,_,h7⟩:=nr_ ha HR underlying166 underlying2 HH hn (GX ho)
 have hc:c=f o:=by
  rw[hv o ho] at h2;injection h2 with e2;injection e2 with _ e3;exact e3.symm
 subst hc;refine⟨st,w1,h1,h4,h5,h6,fun x hx=>?_⟩;obtain⟨w3,g1,g2,g3,_⟩:=h7 x hx;refine⟨w3,g1,⟨_,g2,fun o' hb=>?_⟩,g3⟩;by_cases e:o=o'
 ·subst e;rw[Maps.atKey_put_same ha.isMap (FV.key (GX ho))];dsimp only;rw[if_pos (a3_ o)]
 ·rw[Maps.atKey_put_other (fun e2=>e (mO_ ho hb e2.symm)),hv o' hb];dsimp only;rw[if_neg (fun e2=>e (aM_.1 e2))]
end
section
open Go Go.RowKit Go.BigFrame
theorem fh_ {l:List Ct}{k:Nat}{p:Ct}(h:l[k]?=some p)(o:Ow):tot o (l.take (k+1))=tot o (l.take k)+(if Bz p.o o=true then p.n else 0):=by
 rw[ZK,h,bn_];simp[tot]
theorem eR_ {M:Int}(hM:0<=M):∀ {l:List Ct},(∀ x∈l,-M<=x.n∧x.n<=M)->∀ o,-(M*l.length)<=tot o l∧tot o l<=M*l.length
 |[],_,_=>by simp[tot]
 |c::r,h,o=>by
  have h1:=eR_ hM (l:=r) (fun x hx=>h x (by simp[hx])) o;have h2:=h c (by simp);simp only[tot,Zw];rw[show ((r.length+1:Nat):Int)=r.length+1 by omega,Int.mul_add,Int.mul_one];split<;>omega
def WfC (l:List Ct):Prop:=∀ c∈l,WfO c.o
theorem dF_ (b m:Nat)(f:Ow->Int)(a:Option Addr)(n cap:Nat)(l:List Ct)(w:World)(hT:A0 w b m f)(h:A5 w a n l)(hw:WfC l)(hn:n<=1000000)(hm:m<=1000000)(hb:∀ x∈l,-1000000<=x.n∧x.n<=1000000)(hf:∀ o,-1000000000000<=f o∧f o<=1000000000000):
  Calls Tryz.prog 119 #[.map (some b),.slice a n cap] w fun e w'=>e=.returned (.tuple #[])∧A0 w' b (m+n) (fun o=>f o+tot o l)∧w.grownBy w' (some b):=by
 have hc:Hid (l.length=n):=h.len;go_enter Tryz.func119,Tryz.ntmps119
 go_wp2_with fail
 go_loopw [8] (fun ix wr=>∃ (k:Nat),k<=n∧ix=.int .i64 k∧A0 wr b (m+k) (fun o=>f o+tot o (l.take k))∧w.grownBy wr (some b)) (fun ix _=>n-(intOf ix).toNat)
 case atStart=>exact⟨0,Zg _,rfl,hT.congr (fun o=>by simp[tot]),⟨rfl,rfl,rfl,Zd _,fun _ _ _=>rfl⟩⟩
 case round=>
  obtain⟨k,hk,rfl,T2,hG⟩:=hrel;by_cases hlt:k<n
  ·obtain⟨bb,oo,p,rfl,hp,c0,c1,c2,c3⟩:=aN_ h hlt;have ha:=hT.apart c0;have d0:=hG.cell c0 (by simpa using ha);have d1:=hG.cell c1 (by simpa using ha);have d2:=hG.cell c2 (by simpa using ha);have d3:=hG.cell c3 (by simpa using ha);have hs:=hw p (Zc hp);have ho:=hb p (Zc hp);have he:=fh_ hp;have hg:=eR_ (M:=1000000) (by omega) (l:=l.take k) (fun x hx=>hb x (ZX hx));clear c0 c1 c2 c3
   go_wp2_with fail
   have z0:(wr.alloc (.cells #[.int .i64 p.o.a,.int .i64 p.o.v,.string p.o.f,.int .i64 p.n] 80)).cell? ⟨wr.heap.size,0,none⟩=some (.int .i64 p.o.a):=by simp
   have z1:(wr.alloc (.cells #[.int .i64 p.o.a,.int .i64 p.o.v,.string p.o.f,.int .i64 p.n] 80)).cell? ⟨wr.heap.size,1,none⟩=some (.int .i64 p.o.v):=by simp
   have z2:(wr.alloc (.cells #[.int .i64 p.o.a,.int .i64 p.o.v,.string p.o.f,.int .i64 p.n] 80)).cell? ⟨wr.heap.size,2,none⟩=some (.string p.o.f):=by simp
   have z3:(wr.alloc (.cells #[.int .i64 p.o.a,.int .i64 p.o.v,.string p.o.f,.int .i64 p.n] 80)).cell? ⟨wr.heap.size,3,none⟩=some (.int .i64 p.n):=by simp
   have hr:w.grownBy (wr.alloc (.cells #[.int .i64 p.o.a,.int .i64 p.o.v,.string p.o.f,.int .i64 p.n] 80)) (some b):=hG.andThen (Yl wr _ (some b)) (fun j hj=>by cases hj;exact .inr rfl);have T3:A0 (wr.alloc (.cells #[.int .i64 p.o.a,.int .i64 p.o.v,.string p.o.f,.int .i64 p.n] 80)) b (m+k) (fun o=>f o+tot o (l.take k)):=T2.kept (Yl wr _ none) (by simp);generalize wr.alloc (.cells #[.int .i64 p.o.a,.int .i64 p.o.v,.string p.o.f,.int .i64 p.n] 80)=W at *;have T4:A0 W.drew b (m+k) (fun o=>f o+tot o (l.take k)):=T3;obtain⟨st,w1,e1,e2,e3,g1,e4⟩:=T4.entry (by unfold maxLen;omega) hs;have hv:((l.take k).length:Int)<=n:=by simp;omega
   have hC:-3000000000000<=f p.o+tot p.o (l.take k)∧f p.o+tot p.o (l.take k)<=3000000000000:=by
    have h1:=hf p.o;have h2:=hg p.o;omega
   obtain⟨w3,e5,T5,g3⟩:=e4 (f p.o+tot p.o (l.take k)+p.n) (Yz (by omega));clear e4 T4 T3 T2 d0 d1 d2 d3 hg
   have hl:A0 w3 b (m+(k+1)) (fun o=>f o+tot o (l.take (k+1))):=T5.congr (fun o=>by
    rw[he o];split
    ·rename_i hh;rw[aM_.1 hh];omega
    ·omega)
   clear T5 he;generalize f p.o+tot p.o (l.take k)=C at *;obtain⟨ht,hu⟩:=hC;obtain⟨hy,hz⟩:=ho;have hq:w.grownBy w3 (some b):=(hr.andThen (row':=some b) (⟨rfl,rfl,rfl,Zd _,fun _ _ _=>rfl⟩:W.grownBy W.drew (some b)) (fun j hj=>by cases hj;exact .inr rfl)).andThen (row':=some b) g3 (fun j hj=>by cases hj;exact .inr rfl)
   go_region
   go_wp2;go_roundw
   case rel=>exact⟨k+1,by omega,by go_num,hl,hq⟩
   case measure=>simp[intOf];omega
  ·obtain rfl:k=n:=by omega
   go_wp2;go_returns;refine⟨rfl,?_,hG⟩;rw[Zk (by rw[hc.out];exact Zd _)] at T2;exact T2
end
section
open Go Go.RowKit Go.BigFrame Tryz
open Go.Sort (SWO PermIn SortedIn grow alloc_eq_grow grow_grow)
variable{α:Type}
theorem Ie (h:Array α)(a b c:α):((h.push a).push b).push c=h++#[a,b,c]:=Array.ext' (by simp)
theorem Id (h os:Array α)(a b:α):(h.push a).push b++os=h++(#[a,b]++os):=Array.ext' (by simp)
end
end Go.Proofs.YtahenegmbmnmjaaGreatDoor
