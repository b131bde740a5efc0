/- What is laid on a file's parts, put into its volume. -/
import Derived.Test.YtdmeabghpchckaaGreatDoorU06
import Derived.Test.YtdmeabghpchckaaGreatDoorU17
import Derived.Test.YtdmeabghpchckaaGreatDoorU23
set_option maxHeartbeats 20000000
set_option maxRecDepth 100000
namespace Go.Proofs.YtdmeabghpchckaaGreatDoor
section
open Go Go.RowKit Go.BigFrame Tryz
variable{α:Type}{r:IR}{y:It}{rows:List IR}{l:List It}{B k:Nat}{w:World}{x:α}
def BJ (c:Int)(a:Addr):Value:=.iface 63 (.agg #[.int .i64 c,.iface 277 (.pointer (some a))])
theorem Bd.parts {r:VR}{y:Vo}(h:Bd B w r y):∃ rowsI,Ad irs 2 134 w B r.pa r.pn r.pc rowsI∧AC B w rowsI y.its:=h.its
theorem AC.ins (hk:k<=rows.length)(h:AC B w rows l)(h':BU B w r y):AC B w (rows.take k++[r]++rows.drop k) (l.take k++[y]++l.drop k):=by
 have hl:=h.len;refine⟨by simp[hl],fun i q z h1 h2=>?_⟩;have e1:(rows.take k).length=k:=by simp;omega
 have e2:(l.take k).length=k:=by simp;omega
 rw[ZC] at h1 h2;by_cases hi:i<k
 ·rw[ZD (by omega),Ya hi] at h1 h2;exact h.at' i q z h1 h2
 ·rw[Zv (by omega)] at h1 h2;rw[e1] at h1;rw[e2] at h2;by_cases hik:i=k
  ·subst hik;rw[Nat.sub_self] at h1 h2;simp at h1 h2;subst h1 h2;exact h'
  ·obtain⟨j,hj⟩:∃ j,i-k=j+1:=⟨i-k-1,by omega⟩;rw[hj] at h1 h2;simp only[List.singleton_append,Yt,List.getElem?_drop] at h1 h2;exact h.at' (k+j) q z h1 h2
theorem pE_ {a b:ByteArray}(h:a.toList=b.toList):a=b:=by
 rw[Zu,Zu] at h;exact ByteArray.ext (Array.toList_inj.1 h)
theorem kB_ {l:List α}{i:Nat}(h:l[i]?=some x):l.set i x=l:=by
 apply List.ext_getElem?;intro j;by_cases hj:i=j
 ·subst hj;rw[Zx (Zb.1 h).1,h]
 ·rw[ZJ hj]
theorem mN_ {l:List α}{x':α}(hk:k<=l.length):(l.take k++[x]++l.drop k).set k x'=l.take k++[x']++l.drop k:=by
 have e1:(l.take k).length=k:=by simp;omega
 rw[ZC,List.set_append_right _ _ (by omega),e1,Nat.sub_self];simp
theorem AC.tyR {w':World}{row:Option Nat}{t':TypeId}(h:AC B w rows l)(hg:w.grownBy w' row)(hr:By w row t')(ht:(146:TypeId)≠t'):AC B w' rows l:=
 ⟨h.len,fun i r y h1 h2=>⟨(h.at' i r y h1 h2).nm,(h.at' i r y h1 h2).ps.ty hg hr ht⟩⟩
def Fw (w:World)(r:VR)(w':World)(r':VR):Prop:=(∀ ad,r'.pa=some ad->ad.block∈AT r.pa∨w.heap.size<=ad.block)∧∀ rs,AE irs 2 w r.pa r.pn rs->Dy w.heap.size (bkI rs) (pbk w' r')
theorem jq_ (B vb vn vc i:Nat)(rows:List VR)(r:VR)(y:Vo)(file:ByteArray)(pa:Option Addr)(pn pc:Nat)(l:List Pt)(at':Int)(qa:Option Addr)(qn qc:Nat)(m:List Pt)(ep:Addr)(w:World)(hBw:B<=w.heap.size)
  (RV:Ad vrs 4 38 w B (some ⟨vb,0,none⟩) vn vc rows)(hi:rows[i]?=some r)(V:Bd B w r y)(hris:EP y.its)(hlen:y.its.length<=4000000)
  (hP:AM w pa pn l)(hpn:pn<=4194304)(hPb:∀ ad,pa=some ad->ad.block<w.heap.size)(hQ:AM w qa qn m)(hqn:qn<=4194304)(hQb:∀ ad,qa=some ad->ad.block<w.heap.size)(hg:BC w 10 ep):
  Calls prog 142 #[.pointer (some ⟨vb,i*4,none⟩),.string file,.slice pa pn pc,.int .i64 at',.slice qa qn qc] w fun e w'=>
   (BN l at' m=none∧e=.returned (BJ 5 ep)∧Below w.heap.size w w')∨(∃ ps r',BN l at' m=some ps∧e=.returned .nilIface∧Ad vrs 4 38 w' B (some ⟨vb,0,none⟩) vn vc (rows.set i r')∧Bd B w' r' {y with its:=A9 ⟨file,ps⟩ y.its}∧FrL (vb::AT r.pa) w w'∧Fw w r w' r'):=by
 go_enter func142,ntmps142
 go_wp2_with fail
 refine (nc_ pa pn pc l at' qa qn qc m w hP hpn hPb hQ hqn hQb).mono ?_;rintro e w1 ⟨hq,hj⟩
 cases ho:BN l at' m with
 |none=>
  rw[ho] at hq;obtain rfl:=hq;have x:=Ab hj hg;go_wp2;go_returns;exact .inl ⟨ho,rfl,hj⟩
 |some ps=>
  rw[ho] at hq;obtain⟨a1,n1,c1,rfl,R1⟩:=hq;replace RV:=RV.below hj;replace V:=V.below hj;obtain⟨rowsI,RI,TI⟩:=V.its;have qt:rowsI.length=y.its.length:=TI.len;have qu:rowsI.length=r.pn:=RI.sl.len;have hJ:=hj.size;have qj:=(RV.block _ rfl).2;have y3:w1.cell? ⟨vb,i*4+3,none⟩=some (.slice r.pa r.pn r.pc):=RV.cellAt hi rfl;have qr:r.pn<=4000000:=by omega
  clear hP hQ hPb hQb hg
  go_wp2_with fail
  go_loopw [13] (fun ix wr=>∃ (k:Nat),k<=r.pn∧ix=.int .i64 k∧Hid (k<=plI y.its file)∧wr=w1) (fun ix _=>r.pn-(intOf ix).toNat)
  case atStart=>exact⟨0,Zg _,rfl,Zg _,rfl⟩
  case round=>
   obtain⟨k,hk,rfl,h6,rfl⟩:=hrel;by_cases hlt:k<r.pn
   ·have qd:(k:Int)<r.pn:=by omega
    have qp:(0:Int)<=k:=by omega
    obtain⟨ib,hs,qo,qs,qm⟩:=RI.addr (by omega);have qe:k<y.its.length:=by omega
    obtain⟨z,hz⟩:∃ z,y.its[k]?=some z:=⟨y.its[k],by simp[qe]⟩;have qg:k<rowsI.length:=by omega
    obtain⟨ri,hH⟩:∃ ri,rowsI[k]?=some ri:=⟨rowsI[k],by simp[qg]⟩;have hT:=TI.at' k ri z hH hz;rw[hs] at RI y3;have x0:wr.cell? ⟨ib,k*2,none⟩=some (.string ri.nm):=RI.cellAt (j:=0) hH rfl;rw[hT.nm] at x0;have hZ:=oq_ hz h6.out
    cases h4:bl z.nm.toList file.toList
    ·have hv:Hid (k=plI y.its file):=hZ.2 h4;clear hZ;by_cases he:z.nm.toList=file.toList
     ·have qk:Hid (z.nm=file):=pE_ he;have qb:(z.nm.toList==file.toList)=true:=by simpa using he
      have hI:Hid (A9 ⟨file,ps⟩ y.its=y.its.set (plI y.its file) ⟨file,ps⟩):=pD_ (x:=⟨file,ps⟩) hris (by show y.its[plI y.its file]?=_;rw[<-hv.out];exact hz) he;obtain⟨cc,hb⟩:=RI.blkAt;have x1:wr.cell? ⟨ib,k*2+1,none⟩=some (.slice ri.pa ri.pn ri.pc):=RI.cellAt (j:=1) hH rfl;have f1:=hb.frozen (k*2+1);have h5:((k:Int)==(r.pn:Int))=false:=by simp;omega
      have ql:=cn_ file.toList;go_wp2;have hK:wr.grownBy (wr.setCell ⟨ib,k*2+1,none⟩ (.slice a1 n1 c1)) (some ib):=af_ (Yh _ _) _ _;have h3:=RI.set1 (x':=⟨ri.nm,a1,n1,c1⟩) (v:=.slice a1 n1 c1) aI_ hH (j:=1) (by decide) rfl;have R9:=(R1.ty hK (aa_ hb) (by decide)).mono hBw;have h8:=(TI.tyR hK (aa_ hb) (by decide)).set k (r:=⟨ri.nm,a1,n1,c1⟩) (y:=⟨file,ps⟩) ⟨by show ri.nm=file;rw[hT.nm,qk.out],R9⟩;have h7:=RV.ty hK (aa_ hb) (by decide);go_returns;have hB:=(FrL.of_below (bs:=vb::AT r.pa) hj).new (FrL.of_grown (bs:=[ib]) hK (fun k e=>.inl (by cases e;simp))) (fun k hk=>.inl (by simp at hk;subst hk;rw[hs];simp[AT]));refine .inr ⟨ps,r,ho,rfl,?_,?_,hB,⟨fun ad e=>.inl (aO_.2 ⟨ad,e,rfl⟩),fun rs hw=>by rw[hs] at hw;rw[co_ (hw.below hj) RI.sl,cv_ (r:=r) (by rw[hs];exact h3.sl)];exact oa_ hH (fun ad e=>(R1.block ad e).1)⟩⟩
      ·rw[kB_ hi];exact h7
      ·refine⟨V.id,V.nm,V.fx,_,by rw[hs];exact h3,?_⟩;show AC _ _ _ (A9 ⟨file,ps⟩ y.its);rw[hI.out,<-hv.out];exact h8
     ·have qb:(z.nm.toList==file.toList)=false:=by simpa using he
      have hI:Hid (A9 ⟨file,ps⟩ y.its=y.its.take (plI y.its file)++[⟨file,ps⟩]++y.its.drop (plI y.its file)):=mM_ (x:=⟨file,ps⟩) hris (by show ∀ y',y.its[plI y.its file]?=some y'->_;rw[<-hv.out,hz];intro y' e;cases e;exact he);have h5:((k:Int)==(r.pn:Int))=false:=by simp;omega
      go_wp2_with fail
      have ha:Below wr.heap.size wr (wr.alloc (.cells #[.string file,.slice none 0 0] 134)):=(Yg _ _).alloc (Zd _) _;have ht:=RI.below ha;have hA:=TI.below ha;have hy:=RV.below ha;have hx:=R1.below ha;have hm:=Blk.new wr #[.string file,.slice none 0 0] 134;have hE:=(FrL.of_below hj).new (FrL.of_below (bs:=vb::AT r.pa) ha) (fun k h=>.inl h);refine (hH_ B (some ⟨ib,0,none⟩) r.pn r.pc k wr.heap.size rowsI ⟨file,none,0,0⟩ _ ht hm (fun ad e=>by have:=(RI.block ad e).2;omega) (by omega) (by have:=ha.size;omega) (by omega)).mono ?_;rintro e w3 ⟨⟨a3,c3,rfl,R3,hD⟩,hh⟩;have h0:w.heap.size<=w3.heap.size:=Zl hJ (Zl ha.size hh.size);have hr:=ht.rowTy (m:=r.pn) (k:=r.pc);have hS:=hA.tyR hh hr (by decide);have hu:=hy.ty hh hr (by decide);have hL:=hx.ty hh hr (by decide);have hW:=hE.new (FrL.of_grown (bs:=AT r.pa) hh (fun k e=>.inl (by have:=gm_ e;first | exact this | (rw[hs];exact this)))) (fun k h=>.inl (ZY _ h));obtain⟨ab,hC,h9,_,_⟩:=R3.addr (by omega)
      have hF:ab∈AT r.pa∨w.heap.size<=ab:=by
       rcases hD _ hC with⟨ad,e1,e2⟩ | e1
       ·left;rw[aO_];exact⟨ad,by first | exact e1 | (rw[hs];exact e1),e2⟩
       ·right;have:=ha.size;simp only at e1;omega
      clear hr hh ha ht hA hy hx hm hE hD
      skip
      have y3b:w3.cell? ⟨vb,i*4+3,none⟩=some (.slice r.pa r.pn r.pc):=hu.cellAt hi rfl;obtain⟨cv,hf⟩:=hu.blkAt;have fv:=hf.frozen (i*4+3);rw[hC] at R3 ⊢;obtain⟨cc,hb⟩:=R3.blkAt;have hG:¬ ab=vb:=fun e=>by rw[e] at hb;unfold Blk at hb hf;rw[hb] at hf;injection hf with q;injection q with _ q2;exact absurd q2 (by decide)
      have hY:¬ vb=ab:=fun e=>hG e.symm;have hn:(rowsI.take k++[(⟨file,none,0,0⟩:IR)]++rowsI.drop k)[k]?=some ⟨file,none,0,0⟩:=by rw[ZC,Zv (by simp;omega)];simp[ZZ (show k<=rowsI.length by omega)]
      have x1b:w3.cell? ⟨ab,k*2+1,none⟩=some (.slice none 0 0):=R3.cellAt (j:=1) hn rfl;have f1b:=hb.frozen (k*2+1);have qf:(k:Int)<(r.pn:Int)+1:=by omega
      have qh:(0:Int)<=k:=by omega
      go_wp2;have hl:w3.grownBy (w3.setCell ⟨vb,i*4+3,none⟩ (.slice (some ⟨ab,0,none⟩) (r.pn+1) c3)) (some vb):=af_ (Yh _ _) _ _;have hO:=hu.set1 (x':=⟨r.id,r.nm,r.fx,some ⟨ab,0,none⟩,r.pn+1,c3⟩) (v:=.slice (some ⟨ab,0,none⟩) (r.pn+1) c3) a2_ hi (j:=3) (by decide) rfl;have R4:=R3.ty hl (aa_ hf) (by decide);have hU:=hS.tyR hl (aa_ hf) (by decide);have hM:=hL.ty hl (aa_ hf) (by decide);have hc:=hb.grown hl hG;have hX:=hW.new (FrL.of_grown (bs:=[vb]) hl (fun k e=>.inl (by cases e;simp))) (fun k hk=>.inl (by simp at hk;subst hk;simp));generalize w3.setCell ⟨vb,i*4+3,none⟩ (.slice (some ⟨ab,0,none⟩) (r.pn+1) c3)=w4 at *;have hp:w4.grownBy (w4.setCell ⟨ab,k*2+1,none⟩ (.slice a1 n1 c1)) (some ab):=af_ (Yh _ _) _ _;have R5:=R4.set1 (x':=⟨file,a1,n1,c1⟩) (v:=.slice a1 n1 c1) aI_ hn (j:=1) (by decide) rfl;rw[mN_ (by omega)] at R5;have hR:=hO.ty hp (aa_ hc) (by decide);have hN:=(hM.ty hp (aa_ hc) (by decide)).mono hBw;have hV:=(hU.tyR hp (aa_ hc) (by decide)).ins (k:=k) (r:=⟨file,a1,n1,c1⟩) (y:=⟨file,ps⟩) (by omega) ⟨rfl,hN⟩;have hB:=hX.new (FrL.of_grown (bs:=[ab]) hp (fun k e=>.inl (by cases e;simp))) (fun k hk=>by simp at hk;subst hk;exact hF.elim (fun h1=>.inl (ZY _ h1)) (fun h1=>.inr h1));go_returns;refine .inr ⟨ps,⟨r.id,r.nm,r.fx,some ⟨ab,0,none⟩,r.pn+1,c3⟩,ho,rfl,hR,⟨V.id,V.nm,V.fx,_,R5,?_⟩,hB,⟨fun ad e=>by cases e;exact hF,fun rs hw=>by rw[hs] at hw;rw[co_ (hw.below hj) RI.sl,cv_ (r:=⟨r.id,r.nm,r.fx,some ⟨ab,0,none⟩,r.pn+1,c3⟩) R5.sl];exact ko_ (fun ad e=>(R1.block ad e).1)⟩⟩;show AC _ _ _ (A9 ⟨file,ps⟩ y.its);rw[hI.out,<-hv.out];exact hV
    ·have qi:Hid (k+1<=plI y.its file):=hZ.1 h4;go_wp2;go_roundw
     case rel=>exact⟨k+1,by omega,by go_num,qi,trivial⟩
     case measure=>simp[intOf];omega
   ·have qq:Hid (k=r.pn):=by show _=_;omega
    have qd:¬ (k:Int)<r.pn:=by omega
    have h5:((k:Int)==(r.pn:Int))=true:=by simp;omega
    have hv:Hid (k=plI y.its file):=by have h1:=p0_ y.its file;have h2:=h6.out;show _=_;omega
    have hI:Hid (A9 ⟨file,ps⟩ y.its=y.its.take (plI y.its file)++[⟨file,ps⟩]++y.its.drop (plI y.its file)):=mM_ (x:=⟨file,ps⟩) hris (by show ∀ y',y.its[plI y.its file]?=some y'->_;rw[<-hv.out];intro y' e;have:=(Zb.1 e).1;omega)
    go_wp2_with fail
    have ha:Below wr.heap.size wr (wr.alloc (.cells #[.string file,.slice none 0 0] 134)):=(Yg _ _).alloc (Zd _) _;have ht:=RI.below ha;have hA:=TI.below ha;have hy:=RV.below ha;have hx:=R1.below ha;have hm:=Blk.new wr #[.string file,.slice none 0 0] 134;have hE:=(FrL.of_below hj).new (FrL.of_below (bs:=vb::AT r.pa) ha) (fun k h=>.inl h);refine (hH_ B r.pa r.pn r.pc k wr.heap.size rowsI ⟨file,none,0,0⟩ _ ht hm (fun ad e=>by have:=(RI.block ad e).2;omega) (by omega) (by have:=ha.size;omega) (by omega)).mono ?_;rintro e w3 ⟨⟨a3,c3,rfl,R3,hD⟩,hh⟩;have h0:w.heap.size<=w3.heap.size:=Zl hJ (Zl ha.size hh.size);have hr:=ht.rowTy (m:=r.pn) (k:=r.pc);have hS:=hA.tyR hh hr (by decide);have hu:=hy.ty hh hr (by decide);have hL:=hx.ty hh hr (by decide);have hW:=hE.new (FrL.of_grown (bs:=AT r.pa) hh (fun k e=>.inl (by have:=gm_ e;exact this))) (fun k h=>.inl (ZY _ h));obtain⟨ab,hC,h9,_,_⟩:=R3.addr (by omega)
    have hF:ab∈AT r.pa∨w.heap.size<=ab:=by
     rcases hD _ hC with⟨ad,e1,e2⟩ | e1
     ·left;rw[aO_];exact⟨ad,e1,e2⟩
     ·right;have:=ha.size;simp only at e1;omega
    clear hr hh ha ht hA hy hx hm hE hD
    skip
    have y3b:w3.cell? ⟨vb,i*4+3,none⟩=some (.slice r.pa r.pn r.pc):=hu.cellAt hi rfl;obtain⟨cv,hf⟩:=hu.blkAt;have fv:=hf.frozen (i*4+3);rw[hC] at R3 ⊢;obtain⟨cc,hb⟩:=R3.blkAt;have hG:¬ ab=vb:=fun e=>by rw[e] at hb;unfold Blk at hb hf;rw[hb] at hf;injection hf with q;injection q with _ q2;exact absurd q2 (by decide)
    have hY:¬ vb=ab:=fun e=>hG e.symm;have hn:(rowsI.take k++[(⟨file,none,0,0⟩:IR)]++rowsI.drop k)[k]?=some ⟨file,none,0,0⟩:=by rw[ZC,Zv (by simp;omega)];simp[ZZ (show k<=rowsI.length by omega)]
    have x1b:w3.cell? ⟨ab,k*2+1,none⟩=some (.slice none 0 0):=R3.cellAt (j:=1) hn rfl;have f1b:=hb.frozen (k*2+1);have qf:(k:Int)<(r.pn:Int)+1:=by omega
    have qh:(0:Int)<=k:=by omega
    go_wp2;have hl:w3.grownBy (w3.setCell ⟨vb,i*4+3,none⟩ (.slice (some ⟨ab,0,none⟩) (r.pn+1) c3)) (some vb):=af_ (Yh _ _) _ _;have hO:=hu.set1 (x':=⟨r.id,r.nm,r.fx,some ⟨ab,0,none⟩,r.pn+1,c3⟩) (v:=.slice (some ⟨ab,0,none⟩) (r.pn+1) c3) a2_ hi (j:=3) (by decide) rfl;have R4:=R3.ty hl (aa_ hf) (by decide);have hU:=hS.tyR hl (aa_ hf) (by decide);have hM:=hL.ty hl (aa_ hf) (by decide);have hc:=hb.grown hl hG;have hX:=hW.new (FrL.of_grown (bs:=[vb]) hl (fun k e=>.inl (by cases e;simp))) (fun k hk=>.inl (by simp at hk;subst hk;simp));generalize w3.setCell ⟨vb,i*4+3,none⟩ (.slice (some ⟨ab,0,none⟩) (r.pn+1) c3)=w4 at *;have hp:w4.grownBy (w4.setCell ⟨ab,k*2+1,none⟩ (.slice a1 n1 c1)) (some ab):=af_ (Yh _ _) _ _;have R5:=R4.set1 (x':=⟨file,a1,n1,c1⟩) (v:=.slice a1 n1 c1) aI_ hn (j:=1) (by decide) rfl;rw[mN_ (by omega)] at R5;have hR:=hO.ty hp (aa_ hc) (by decide);have hN:=(hM.ty hp (aa_ hc) (by decide)).mono hBw;have hV:=(hU.tyR hp (aa_ hc) (by decide)).ins (k:=k) (r:=⟨file,a1,n1,c1⟩) (y:=⟨file,ps⟩) (by omega) ⟨rfl,hN⟩;have hB:=hX.new (FrL.of_grown (bs:=[ab]) hp (fun k e=>.inl (by cases e;simp))) (fun k hk=>by simp at hk;subst hk;exact hF.elim (fun h1=>.inl (ZY _ h1)) (fun h1=>.inr h1));go_returns;refine .inr ⟨ps,⟨r.id,r.nm,r.fx,some ⟨ab,0,none⟩,r.pn+1,c3⟩,ho,rfl,hR,⟨V.id,V.nm,V.fx,_,R5,?_⟩,hB,⟨fun ad e=>by cases e;exact hF,fun rs hw=>by rw[co_ (hw.below hj) RI.sl,cv_ (r:=⟨r.id,r.nm,r.fx,some ⟨ab,0,none⟩,r.pn+1,c3⟩) R5.sl];exact ko_ (fun ad e=>(R1.block ad e).1)⟩⟩;show AC _ _ _ (A9 ⟨file,ps⟩ y.its);rw[hI.out,<-hv.out];exact hV
end
section
open Go Go.RowKit Go.BigFrame
variable{rows:List VR}{B i vb vc vn:Nat}{r:VR}{y:Vo}{w w' w0:World}
def CW (B:Nat)(e:Ending)(w':World):Option (List Pt)->Prop
 |none=>e=.returned (.tuple #[.slice none 0 0,.bool false])
 |some ps=>∃ pa pn pc,e=.returned (.tuple #[.slice pa pn pc,.bool true])∧AM w' pa pn ps∧Hd B pa pn pc∧ps.length<=4194304∧∀ ad,pa=some ad->ad.block<w'.heap.size
theorem bv_ (B b o:Nat)(h0:0<B)(x:Vo)(file:ByteArray)(w:World)(h:Fy B w b o x)(m2:x.its.length<=4194304)(m3:Ge x.its):
  Calls Tryz.prog 88 #[.pointer (some ⟨b,o,none⟩),.string file] w fun e w'=>CW B e w' ((itI x.its file).bind fun k=>x.its[k]?.map (·.ps))∧Below w.heap.size w w':=by
 obtain⟨_,_,qa,qn,qc,e3,hP,hH⟩:=h;have ha:Hid (x.its.length=qn):=hP.len;rw[ha.out] at m2;have hR:Hid (((itI x.its file).bind fun k=>x.its[k]?.map (·.ps))=(((itI (x.its.drop 0) file).map (·+0)).bind fun k=>x.its[k]?.map (·.ps))):=by show _=_;simp
 generalize ((itI x.its file).bind fun k=>x.its[k]?.map (·.ps))=R at *;go_enter Tryz.func88,Tryz.ntmps88
 go_wp2_with fail
 go_loopw [13] (fun ix wr=>∃ (k:Nat),k<=qn∧ix=.int .i64 k∧Hid (R=(((itI (x.its.drop k) file).map (·+k)).bind fun k=>x.its[k]?.map (·.ps)))∧Below w.heap.size w wr) (fun ix _=>qn-(intOf ix).toNat)
 case atStart=>exact⟨0,Zg _,rfl,hR,Yg _ _⟩
 case round=>
  clear hR;obtain⟨k,hk,rfl,hI,hB⟩:=hrel;by_cases hlt:k<qn
  ·have hj:k<x.its.length:=by rw[ha.out];exact hlt
   obtain⟨y,hy⟩:∃ y,x.its[k]?=some y:=⟨x.its[k],by simp[hj]⟩;obtain⟨ib,io,pa,pn,pc,rfl,g0,g1,hf,he,_,_,hg,_⟩:=(hP.below hB).cell k y hy;obtain⟨_,m5⟩:=m3 y (Zc hy);have hb:Hid (R=((if (y.nm.toList==file.toList)=true then some k else (itI (x.its.drop (k+1)) file).map (·+(k+1))).bind fun k=>x.its[k]?.map (·.ps))):=by show _=_;rw[hI.out,ku_ hy]
   have hm:(k:Int)<qn:=by omega
   have hn:(0:Int)<=k:=by omega
   have hc:Below wr.heap.size wr (wr.alloc (.cells #[.string y.nm,.slice pa pn pc] 134)):=by go_grown
   have X:=(Blk.new wr #[.string y.nm,.slice pa pn pc] 134);clear hI
   cases hs:(y.nm.toList==file.toList)
   ·rw[hs] at hb;simp only[Zj,if_false] at hb;have hl:¬ y.nm.toList=file.toList:=by simpa using hs
    clear hy;go_wp2;go_roundw
    case rel=>exact⟨k+1,by omega,by go_num,hb,Aa hB hc⟩
    case measure=>simp[intOf];omega
   ·rw[hs] at hb;simp only[if_true,YO,hy,Option.map_some] at hb;have hl:y.nm.toList=file.toList:=by simpa using hs
    clear hy;go_wp2;go_returns;exact⟨by rw[hb.out];exact⟨pa,pn,pc,rfl,hf.below hc,he,m5,fun ad e=>by obtain⟨_,c1,t1,hh⟩:=hg h0 ad e;exact Zy hh.lt hc.size⟩,Aa hB hc⟩
  ·obtain rfl:k=qn:=by omega
   go_wp2;go_returns;exact⟨by rw[hI.out,Ze (Zm ha.out)];rfl,hB⟩
theorem Bd.at (V:Bd B w r y)(RV:Ad vrs 4 38 w B (some ⟨vb,0,none⟩) vn vc rows)(hi:rows[i]?=some r):Fy B w vb (i*4) y:=by
 obtain⟨e1,e2,e3,rs,R,T⟩:=V;have c0:=RV.cellAt (j:=0) hi rfl;have c1:=RV.cellAt (j:=1) hi rfl;have c3:=RV.cellAt (j:=3) hi rfl;rw[e1] at c0;rw[e2] at c1;exact⟨c0,c1,r.pa,r.pn,r.pc,c3,T.rows.its R,R.hd⟩
def AO (y:Vo)(file:ByteArray):Option (List Pt):=(itI y.its file).bind fun k=>y.its[k]?.map (·.ps)
def Gb (B vb vn vc i:Nat)(rows:List VR)(r:VR)(y:Vo)(its:List It)(w w':World):Prop:=∃ r',Ad vrs 4 38 w' B (some ⟨vb,0,none⟩) vn vc (rows.set i r')∧Bd B w' r' {y with its:=its}∧FrL (vb::AT r.pa) w w'∧Fw w r w' r'
theorem Fw.from {r':VR}(hb:Below w0.heap.size w0 w)(h:Fw w r w' r'):Fw w0 r w' r':=⟨fun ad e=>(h.1 ad e).imp id (fun q=>Zl hb.size q),fun rs ha=>(h.2 rs (ha.below hb)).mono hb.size⟩
theorem Gb.from {its:List It}(hb:Below w0.heap.size w0 w)(h:Gb B vb vn vc i rows r y its w w'):Gb B vb vn vc i rows r y its w0 w':=by
 obtain⟨r',h1,h2,h3,h4⟩:=h;exact⟨r',h1,h2,(FrL.of_below hb).new h3 (fun k h=>.inl h),h4.from hb⟩
theorem Di (B vb vn vc i:Nat)(rows:List VR)(r:VR)(y:Vo)(file:ByteArray)(pa:Option Addr)(pn pc:Nat)(l:List Pt)(at':Int)(qa:Option Addr)(qn qc:Nat)(m:List Pt)(ep:Addr)(w:World)(hBw:B<=w.heap.size)(F:Foc B vb vn vc i rows r y w)
  (hP:AM w pa pn l)(hpn:pn<=4194304)(hPb:∀ ad,pa=some ad->ad.block<w.heap.size)(hQ:AM w qa qn m)(hqn:qn<=4194304)(hQb:∀ ad,qa=some ad->ad.block<w.heap.size)(hg:BC w 10 ep):
  Calls Tryz.prog 142 #[.pointer (some ⟨vb,i*4,none⟩),.string file,.slice pa pn pc,.int .i64 at',.slice qa qn qc] w fun e w'=>
   (BN l at' m=none∧e=.returned (BJ 5 ep)∧Below w.heap.size w w')∨(∃ ps,BN l at' m=some ps∧e=.returned .nilIface∧Gb B vb vn vc i rows r y (A9 ⟨file,ps⟩ y.its) w w'):=by
 refine (jq_ B vb vn vc i rows r y file pa pn pc l at' qa qn qc m ep w hBw F.rv F.hi F.v F.ris F.len hP hpn hPb hQ hqn hQb hg).mono ?_;rintro e w' (h | ⟨ps,r',h1,h2,h3,h4,h5⟩)
 ·exact .inl h
 ·exact .inr ⟨ps,h1,h2,r',h3,h4,h5⟩
end
section
open Go Go.RowKit
variable{ps:List Pt}{p:Pt}
theorem oD_ (h:∀ p∈ps,1<=p.n):((CS (BK ps)).getD []).length<=16:=by
 rw[hS_ h];split
 ·rename_i h;exact h.2
 ·simp
theorem hU_ (l:List Pt)(fr to:Int):((AY l fr to).getD []).length<=16:=by
 unfold AY;split
 ·rename_i h;exact oD_ (hT_ fr to l 0 (fun p hp=>(ci_ h.1 p hp).1)).1
 ·simp
end
section
open Go Go.RowKit Go.BigFrame Tryz
variable{α:Type}{file:ByteArray}{r:IR}{rows:List IR}{l:List Pt}{B i:Nat}{y:Vo}{w w':World}
def Gd (S:Addr->Prop)(B vb vn vc i:Nat)(rows:List VR)(r:VR)(y:Vo)(w:World)(e:Ending)(w':World):Int⊕List It->Prop
 |.inl c=>(∃ a,S a∧e=.returned (BJ c a))∧Below w.heap.size w w'
 |.inr its=>e=.returned .nilIface∧Gb B vb vn vc i rows r y its w w'
def Bu (y:Vo)(file:ByteArray)(l:List Pt)(at':Int)(m:List Pt):Int⊕List It:=match BN l at' m with | none=>.inl 5 | some ps=>.inr (A9 ⟨file,ps⟩ y.its)
def Cc (y:Vo)(file:ByteArray)(at' size:Int):Int⊕List It:=match AO y file with | none=>.inl 3 | some l=>Bu y file l at' [⟨0,0,size⟩]
def DT (y:Vo)(file:ByteArray)(size:Int):Int⊕List It:=match AO y file with | none=>.inl 3 | some l=>Bu y file ((AY l 0 (min size (Cb l))).getD []) size []
theorem gp_ {S:Addr->Prop}{vb vn vc:Nat}{rows:List VR}{r:VR}{m:List Pt}{at':Int}{ep:Addr}{w0:World}{e:Ending}(hS:S ep)(hb:Below w0.heap.size w0 w)
  (h:(BN l at' m=none∧e=.returned (BJ 5 ep)∧Below w.heap.size w w')∨(∃ ps,BN l at' m=some ps∧e=.returned .nilIface∧Gb B vb vn vc i rows r y (A9 ⟨file,ps⟩ y.its) w w')):Gd S B vb vn vc i rows r y w0 e w' (Bu y file l at' m):=by
 rcases h with⟨h1,h2,h3⟩ | ⟨ps,h1,h2,h3⟩
 ·unfold Bu;rw[h1];exact⟨⟨ep,hS,h2⟩,Aa hb h3⟩
 ·unfold Bu;rw[h1];exact⟨h2,h3.from hb⟩
theorem lV_ (S:Addr->Prop)(B:Nat)(h0:0<B)(vb vn vc i:Nat)(rows:List VR)(r:VR)(y:Vo)(vol file:ByteArray)(at' size:Int)(w:World)(hBw:B<=w.heap.size)(F:Foc B vb vn vc i rows r y w)(hS:BO S w):
  Calls prog 101 #[.pointer (some ⟨vb,i*4,none⟩),.agg #[.string vol,.string file,.int .i64 at',.int .i64 size]] w fun e w'=>Gd S B vb vn vc i rows r y w e w' (Cc y file at' size):=by
 have hR:Hid (Cc y file at' size=match AO y file with | none=>.inl 3 | some l=>Bu y file l at' [⟨0,0,size⟩]):=rfl;generalize Cc y file at' size=R at *;obtain⟨W0,he⟩:∃ W,W=w.alloc (.cells #[.string vol,.string file,.int .i64 at',.int .i64 size] 179):=⟨_,rfl⟩;have hh:Below w.heap.size w W0:=by rw[he];exact (Yg _ _).alloc (Zd _) _
 have X:Blk W0 w.heap.size #[.string vol,.string file,.int .i64 at',.int .i64 size] 179:=by rw[he];exact Blk.new _ _ _
 go_enter func101,ntmps101
 go_wp2_with fail
 rw[<-he];clear he;have F0:=F.below hh;refine (bv_ B vb (i*4) h0 y file W0 (F0.v.at F0.rv F0.hi) (by have:=F.len;omega) F.str).mono ?_;rintro e w1 ⟨ha,hg⟩;have F1:=F0.below hg;have hC:=Aa hh hg;have hj:=hS.below hC;replace X:=X.below hg;obtain⟨x0,x1,x2,x3⟩:=X.four;have hz:=hC.size;change CW B e w1 (AO y file) at ha
 cases hf:AO y file with
 |none=>
  rw[hf] at ha;obtain rfl:=ha;obtain⟨ef,hm,hp⟩:=hj.file;have g:w1.cell? ⟨8,0,none⟩=_:=hm;go_wp2;go_returns;rw[hR.out,hf];exact⟨⟨ef,hp,rfl⟩,hC⟩
 |some l=>
  rw[hf] at ha;obtain⟨pa,pn,pc,rfl,hP,hr,hl,hk⟩:=ha;obtain⟨ep,hn,hq⟩:=hj.parts;have ho:pn<=4194304:=by rw[<-hP.len];exact hl
  go_wp2_with fail
  have hA:Below w1.heap.size w1 (w1.alloc (.cells #[.int .i64 0,.int .i64 0,.int .i64 size] 146)):=(Yg _ _).alloc (Zd _) _;have hQ:AM (w1.alloc (.cells #[.int .i64 0,.int .i64 0,.int .i64 size] 146)) (some ⟨w1.heap.size,0,none⟩) 1 [⟨0,0,size⟩]:=jo_ (⟨0,0,size⟩:Pt) (Blk.new w1 #[.int .i64 0,.int .i64 0,.int .i64 size] 146) rfl;refine (Di B vb vn vc i rows r y file pa pn pc l at' (some ⟨w1.heap.size,0,none⟩) 1 1 [⟨0,0,size⟩] ep _ (by have:=hA.size;omega) (F1.below hA) (hP.below hA) ho (fun ad e=>Zy (hk ad e) hA.size) hQ (by omega) (fun ad e=>by cases e;simp) (hn.below hA)).mono ?_;rintro e w2 hc;have hb:=gp_ (file:=file) hq (Aa hC hA) hc;rcases hc with⟨_,rfl,_⟩ | ⟨ps,_,rfl,_⟩
  ·unfold BJ at hb ⊢;go_wp2;go_returns;rw[hR.out,hf];exact hb
  ·go_wp2;go_returns;rw[hR.out,hf];exact hb
theorem oE_ (S:Addr->Prop)(B:Nat)(h0:0<B)(vb vn vc i:Nat)(rows:List VR)(r:VR)(y:Vo)(vol file:ByteArray)(size:Int)(w:World)(hBw:B<=w.heap.size)(F:Foc B vb vn vc i rows r y w)(hS:BO S w):
  Calls prog 100 #[.pointer (some ⟨vb,i*4,none⟩),.agg #[.string vol,.string file,.int .i64 size]] w fun e w'=>Gd S B vb vn vc i rows r y w e w' (DT y file size):=by
 have hR:Hid (DT y file size=match AO y file with | none=>.inl 3 | some l=>Bu y file ((AY l 0 (min size (Cb l))).getD []) size []):=rfl;generalize DT y file size=R at *;obtain⟨W0,hj⟩:∃ W,W=w.alloc (.cells #[.string vol,.string file,.int .i64 size] 176):=⟨_,rfl⟩;have hm:Below w.heap.size w W0:=by rw[hj];exact (Yg _ _).alloc (Zd _) _
 have X:Blk W0 w.heap.size #[.string vol,.string file,.int .i64 size] 176:=by rw[hj];exact Blk.new _ _ _
 go_enter func100,ntmps100
 go_wp2_with fail
 rw[<-hj];clear hj;have F0:=F.below hm;refine (bv_ B vb (i*4) h0 y file W0 (F0.v.at F0.rv F0.hi) (by have:=F.len;omega) F.str).mono ?_;rintro e w1 ⟨ha,hk⟩;have F1:=F0.below hk;have hC:=Aa hm hk;have hb:=hS.below hC;replace X:=X.below hk;have x2:w1.cell? ⟨w.heap.size,2,none⟩=some (.int .i64 size):=X.cell 2;have hz:=hC.size;change CW B e w1 (AO y file) at ha
 cases hf:AO y file with
 |none=>
  rw[hf] at ha;obtain rfl:=ha;obtain⟨ef,ht,hv⟩:=hb.file;have g:w1.cell? ⟨8,0,none⟩=_:=ht;go_wp2;go_returns;rw[hR.out,hf];exact⟨⟨ef,hv,rfl⟩,hC⟩
 |some l=>
  rw[hf] at ha;obtain⟨pa,pn,pc,rfl,hP,hx,hs,hr⟩:=ha;have hn:pn<=4194304:=by rw[<-hP.len];exact hs
  go_wp2_with fail
  have hW:Below w1.heap.size w1 w1.drew:=(Yg _ _).drew;replace hP:=hP.below hW;replace X:=X.below hW;replace F1:=F1.below hW;replace hb:=hb.below hW;replace hC:=Aa hC hW;have hE:w1.drew.heap.size=w1.heap.size:=rfl;have hy:(fun u=>u.cell? ⟨w.heap.size,2,none⟩=some (.int .i64 size)) w1.drew:=x2;refine aC_ (S:=(fun u=>u.cell? ⟨w.heap.size,2,none⟩=some (.int .i64 size))) 12 (by kernel_rfl) rfl ?_;generalize w1.drew=u0 at *;refine tk 0 ?_;refine tk 1 ?_;refine tk 2 ?_;refine tk 3 ?_;refine AW (i:=4) (by kernel_rfl) rfl (fun K hK=>?_);go_simp;refine (bo_ pa pn pc l u0 hP hn).mono ?_;rintro e u1 ⟨rfl,hB⟩;replace hP:=hP.below hB;replace X:=X.below hB;replace F1:=F1.below hB;replace hb:=hb.below hB;replace hC:=Aa hC hB;have hA:=hB.size;clear hB;dsimp only;refine hK.out _ _ (X.cell 2) (fun hHeld=>?_);clear hK K
  try simp only[Act.put,lsA,lsB,lsC]
  refine tk 5 ?_;refine AW (i:=6) (by kernel_rfl) rfl (fun K hK=>?_);go_simp;refine (hp_ pa pn pc l 0 (min size (Cb l)) u1 hP hn (fun ad e=>by have:=hr ad e;omega)).mono ?_;rintro e u2 ⟨hh,hB⟩;replace X:=X.below hB;replace F1:=F1.below hB;replace hb:=hb.below hB;replace hC:=Aa hC hB;have hD:=hB.size
  obtain⟨ka,kn,kc,bk,rfl,hq,hp,ho⟩:∃ ka kn kc bk,e=.returned (.tuple #[.slice ka kn kc,.bool bk])∧AM u2 ka kn ((AY l 0 (min size (Cb l))).getD [])∧kn<=4194304∧∀ ad,ka=some ad->ad.block<u2.heap.size:=by
   cases hl:AY l 0 (min size (Cb l)) with
   |none=>rw[hl] at hh;exact⟨none,0,0,false,hh,(aB_ (t:=146) (B:=0)).sl,by omega,fun ad e=>by cases e⟩
   |some L=>
    rw[hl] at hh;obtain⟨ka,kn,kc,he,RK⟩:=hh;refine⟨ka,kn,kc,true,he,RK.sl,?_,fun ad e=>(RK.block ad e).2⟩;rw[<-RK.sl.len]
    have:=hU_ l 0 (min size (Cb l))
    rw[hl] at this;simp only[Yw] at this;omega
  clear hB hh;dsimp only;refine hK.out _ _ (X.cell 2) (fun hHeld=>?_);clear hK K
  try simp only[Act.put,lsA,lsB,lsC]
  refine tk 7 ?_;refine tk 8 ?_;refine tk 9 ?_;refine tk 10 ?_;refine tk 11 ?_;refine wpAnyH_done (by kernel_rfl) ?_ _;obtain⟨ep,hu,hw⟩:=hb.parts;have x1:u2.cell? ⟨w.heap.size,1,none⟩=some (.string file):=X.cell 1;have x2b:u2.cell? ⟨w.heap.size,2,none⟩=some (.int .i64 size):=X.cell 2;clear x2
  go_wp2_with fail
  refine (Di B vb vn vc i rows r y file ka kn kc _ size none 0 0 [] ep u2 (by omega) F1 hq hp ho (aB_ (t:=146) (B:=0)).sl (by omega) (fun ad e=>by cases e) hu).mono ?_;rintro e w2 hg;have hc:=gp_ (file:=file) hw hC hg;rcases hg with⟨_,rfl,_⟩ | ⟨ps,_,rfl,_⟩
  ·unfold BJ at hc ⊢;go_wp2;go_returns;rw[hR.out,hf];exact hc
  ·go_wp2;go_returns;rw[hR.out,hf];exact hc
def BX:Option Nat->Int
 |none=>-1
 |some k=>(k:Int)
theorem fy_ {P:Program}(w:World)(t e:TypeId)(z:Value)(ht:P.underlying t=some (.slice e))(hv:∀ w,(zeroValue e).run P w=.ok z w)(h1:∀ m,∀ u∈(Builtin.zeroCells z.cells m).toList,u.oneCell'=true)(sz:Nat)(hz:z.cells.size=sz)(b o m cp:Nat)(c:Array Value)(e':TypeId)(hb:Blk w b c e')(hfit:o+m*sz<=c.size):
  ∃ W2 c2,(∀ ty,(Builtin.clear_ #[t] ty #[.slice (some ⟨b,o,none⟩) m cp]).run P w=.ok (.tuple #[]) W2)∧Blk W2 b c2 e'∧c2.size=c.size∧c2.toList.take o=c.toList.take o∧w.grownBy W2 (some b):=by
 cases m with
 |zero=>exact⟨w,c,fun ty=>by simp[Builtin.clear_,YY ht],hb,rfl,rfl,Yh _ _⟩
 |succ m=>
  have hl:(Builtin.zeroCells z.cells (m+1)).toList.length=(m+1)*sz:=by simp[Builtin.zeroCells,hz]
  have ha:=run_storeCells_at P b o e' (Builtin.zeroCells z.cells (m+1)).toList 0 c w hb (by rw[hl];simpa using hfit) (h1 (m+1));simp only[Nat.add_zero] at ha;refine⟨w.setRow b (c.toList.take o++(Builtin.zeroCells z.cells (m+1)).toList++c.toList.drop (o+(Builtin.zeroCells z.cells (m+1)).toList.length)).toArray,_,fun ty=>?_,hb.row,?_,?_,fv_ _ _ _⟩
  ·simp[Builtin.clear_,YY ht,hv,ha]
  ·have hc:c.toList.length=c.size:=Array.length_toList;simp only[YI,ZE,Zz,List.length_drop,hc,hl];omega
  ·have hc:c.toList.length=c.size:=Array.length_toList;show (c.toList.take o++_++_).take o=_;rw[ZC,List.take_append_of_le_length (by rw[Zz];omega),List.take_take,Nat.min_self]
theorem cU_ {L:List α}{v:α}(h:i<L.length):(L.set i v).take (i+1)=L.take i++[v]:=by
 rw[ZK,Zx h,List.take_set_of_le (Zd _)];rfl
def eT_ (I:World->Prop)(fv:Value)(q:IR->Bool):Prop:=∃ f cp,fv=.func (.func f) #[] #[cp]∧(∀ (x y:Value) (u:World),(callFunc f #[x,y]).run prog u=.ok (.enter f #[x,y]) u)∧∀ (u:World) (r:IR),I u->Calls prog f #[.agg #[.string r.nm,.slice r.pa r.pn r.pc],cp] u fun e w'=>e=.returned (.bool (q r))∧Below u.heap.size u w'
theorem is_ (I:World->Prop)(fv:Value)(q:IR->Bool)(hq:eT_ I fv q)(hI:∀ u u',I u->Below u.heap.size u u'->I u')(a:Option Addr)(n cap:Nat)(rows:List IR)(w:World)(h:AE irs 2 w a n rows)(hw:I w)(hn:n<=4194304):
  Calls prog 163 #[.slice a n cap,fv] w fun e w'=>e=.returned (.int .i64 (BX (rows.findIdx? q)))∧Below w.heap.size w w':=by
 obtain⟨f,cp,rfl,hh,hq⟩:=hq;have hb:Hid (rows.length=n):=h.len;have hR:Hid ((BX (rows.findIdx? q))=BX (((rows.drop 0).findIdx? q).map (fun j:Nat=>j+0))):=by show _=_;simp
 generalize (BX (rows.findIdx? q))=R at *;go_enter func163,ntmps163
 go_wp2_with fail
 go_loopw [5,8] (fun _ ix wr=>∃ (k:Nat),k<=n∧ix=.int .i64 k∧Hid (R=BX (((rows.drop k).findIdx? q).map (fun j:Nat=>j+k)))∧Below w.heap.size w wr) (fun _ ix _=>n-(intOf ix).toNat)
 case atStart=>exact⟨0,Zg _,rfl,hR,Yg _ _⟩
 case round=>
  clear hR;obtain⟨k,hk,rfl,he,hB⟩:=hrel;by_cases hlt:k<n
  ·have hl:(k:Int)<n:=by omega
   have hm:(0:Int)<=k:=by omega
   have hj:k<rows.length:=by rw[hb.out];exact hlt
   obtain⟨r,hr⟩:∃ r,rows[k]?=some r:=⟨rows[k],by simp[hj]⟩;obtain⟨b,o,rfl,hc⟩:=(h.below hB).cell k r hr;have x0:wr.cell? ⟨b,o+k*2,none⟩=some (.string r.nm):=hc 0 _ rfl;have x1:wr.cell? ⟨b,o+k*2+1,none⟩=some (.slice r.pa r.pn r.pc):=hc 1 _ rfl
   have ha:Hid (R=BX (if q r=true then some k else ((rows.drop (k+1)).findIdx? q).map (fun j:Nat=>j+(k+1)))):=by
    show _=_;rw[he.out,al_ hr,List.findIdx?_cons]
    cases q r
    ·simp only[Zj,if_false]
     cases (rows.drop (k+1)).findIdx? q with
     |none=>rfl
     |some j=>simp only[Option.map_some];congr 2;omega
    ·simp
   clear he
   go_wp2_with fail
   refine (hq wr r (hI _ _ hw hB)).mono ?_;rintro e w2 ⟨rfl,hg⟩;have hC:=Aa hB hg
   cases hf:q r
   ·rw[hf] at ha;simp only[Zj,if_false] at ha;go_wp2;go_roundw
    case rel=>exact⟨k+1,by omega,by go_num,ha,hC⟩
    case measure=>simp[intOf];omega
   ·rw[hf] at ha;simp only[if_true] at ha;go_wp2;go_returns;exact⟨by rw[ha.out]<;>rfl,hC⟩
  ·obtain rfl:k=n:=by omega
   go_wp2;go_returns;exact⟨by rw[he.out,Ze (Zm hb.out)];rfl,hB⟩
theorem p5_:∀ m,∀ u∈(Builtin.zeroCells (.agg #[.string .empty,.slice none 0 0]:Value).cells m).toList,u.oneCell'=true:=by
 intro m u hu;simp only[Builtin.zeroCells,Array.toList_map,ZT] at hu;obtain⟨j,_,rfl⟩:=hu;have h:j % 2<2:=Nat.mod_lt _ (by decide);show ((.agg #[.string .empty,.slice none 0 0]:Value).cells[j % 2]!).oneCell'=true;generalize j % 2=k at h
 match k,h with
 |0,_=>rfl
 |1,_=>rfl
theorem hV_ (I:World->Prop)(fv:Value)(q:IR->Bool)(hq:eT_ I fv q)(hI:∀ u u',I u->Below u.heap.size u u'->I u')(B b n cap:Nat)(hI2:∀ u u',I u->u.grownBy u' (some b)->I u')(rows:List IR)(w:World)(R:Ad irs 2 134 w B (some ⟨b,0,none⟩) n cap rows)(hw:I w)(hn:n<=4194304):
  Calls prog 143 #[.slice (some ⟨b,0,none⟩) n cap,fv] w fun e w'=>∃ m,e=.returned (.slice (some ⟨b,0,none⟩) m cap)∧Ad irs 2 134 w' B (some ⟨b,0,none⟩) m cap (rows.filter (fun r=>!(q r)))∧w.grownBy w' (some b):=by
 have hf:Hid (rows.length=n):=R.sl.len
 have qo:n<=cap∧cap<=9223372036854775807:=by
  rcases R.own with⟨h0,_⟩ | ⟨b',h1,_,h3,h4,_⟩
  ·cases h0
  ·unfold maxLen at h4;omega
 obtain⟨f,cp,rfl,hB,hq⟩:=hq;have qc:eT_ I (.func (.func f) #[] #[cp]) q:=⟨f,cp,rfl,hB,hq⟩;go_enter func143,ntmps143
 go_wp2_with fail
 refine (is_ I (.func (.func f) #[] #[cp]) q qc hI (some ⟨b,0,none⟩) n cap rows w R.sl hw hn).mono ?_;rintro e w1 ⟨rfl,ht⟩;have hU:=hI _ _ hw ht;replace R:=R.below ht;have hu:w.grownBy w1 (some b):=au_ (Yh _ _) ht
 cases hM:rows.findIdx? q with
 |none=>
  have hh:rows.filter (fun r=>!(q r))=rows:=by
   rw[YA];intro r hr
   have:=YL.1 hM r hr
   simpa using this
  unfold BX;go_wp2;go_returns;rw[hh];exact⟨n,rfl,R,hu⟩
 |some k0=>
  obtain⟨hN,hO,hP⟩:=ZA.1 hM;have hD:k0<n:=by rw[<-hf.out];exact hN
  have hk:Hid (rows.take k0=(rows.take (k0+1)).filter (fun r=>!(q r))):=by
   show _=_
   have h1:(rows.take k0).filter (fun r=>!(q r))=rows.take k0:=by
    rw[YA];intro a ha;obtain⟨j,hj,rfl⟩:=List.mem_take_iff_getElem.1 ha
    have:=hP j (by omega)
    simpa using this
   rw[ZK,YR,h1,ZI hN];simp[hO]
  unfold BX;have hz:¬ ((k0:Int)=-1):=by omega
  have qq:((k0:Int)==-1)=false:=by rw[ZV];omega
  go_wp2_with fail
  go_loopw [5,6] (fun vi vj wr=>∃ (i j:Nat) (L:List IR),i<j∧j<=n∧vi=.int .i64 i∧vj=.int .i64 j∧Ad irs 2 134 wr B (some ⟨b,0,none⟩) n cap L∧Hid (L.take i=(rows.take j).filter (fun r=>!(q r)))∧Hid (L.drop j=rows.drop j)∧I wr∧w.grownBy wr (some b)) (fun _ vj _=>n-(intOf vj).toNat)
  case atStart=>exact⟨k0,k0+1,rows,ZB _,hD,rfl,rfl,R,hk,rfl,hU,hu⟩
  case round=>
   clear R hU hu hk hO hP;obtain⟨i,j,L,ql,hj,rfl,rfl,R,hm,hx,hW,hG⟩:=hrel;have qa:L.length=n:=R.sl.len;by_cases hlt:j<n
   ·have qm:(j:Int)<n:=by omega
    have qn:(0:Int)<=j:=by omega
    have qi:(i:Int)<n:=by omega
    have qj:(0:Int)<=i:=by omega
    have h9:j<rows.length:=by rw[hf.out];exact hlt
    obtain⟨v,hv⟩:∃ v,rows[j]?=some v:=⟨rows[j],by simp[h9]⟩
    have hT:L[j]?=some v:=by
     have h1:(L.drop j)[0]?=(rows.drop j)[0]?:=by rw[hx.out]
     simpa[hv] using h1
    have hL:L.drop (j+1)=rows.drop (j+1):=by
     have h1:(L.drop j).drop 1=(rows.drop j).drop 1:=by rw[hx.out]
     simpa[List.drop_drop,Nat.add_comm] using h1
    have hb:(rows.take (j+1)).filter (fun r=>!(q r))=(rows.take j).filter (fun r=>!(q r))++(if q v=true then [] else [v]):=by
     rw[ZK,hv,YR];simp only[Option.toList_some,ZH,List.filter_nil]
     cases q v<;>simp
    have x0:wr.cell? ⟨b,j*2,none⟩=some (.string v.nm):=R.cellAt (j:=0) hT rfl;have x1:wr.cell? ⟨b,j*2+1,none⟩=some (.slice v.pa v.pn v.pc):=R.cellAt (j:=1) hT rfl
    go_wp2_with fail
    have hA:Below wr.heap.size wr (wr.alloc (.cells #[.string v.nm,.slice v.pa v.pn v.pc] 134)):=(Yg _ _).alloc (Zd _) _;have V:=Blk.new wr #[.string v.nm,.slice v.pa v.pn v.pc] 134;have hE:=hI _ _ hW hA;refine (hq _ v hE).mono ?_;rintro e w2 ⟨rfl,hl⟩;have hg:=Aa hA hl;have R2:=R.below hg;have V2:=V.below hl;have hV:=hI _ _ hW hg;have hF:=au_ hG hg;have qp:¬ wr.heap.size=b:=by have:=(R.block _ rfl).2;simp only at this;omega
    have qd:¬ b=wr.heap.size:=by omega
    obtain⟨cc,hp⟩:=R2.blkAt;have y0:w2.cell? ⟨wr.heap.size,0,none⟩=some (.string v.nm):=V2.cell 0;have y1:w2.cell? ⟨wr.heap.size,1,none⟩=some (.slice v.pa v.pn v.pc):=V2.cell 1
    cases hQ:q v
    ·rw[hQ] at hb;simp only[Zj,if_false] at hb;have hs:i<L.length:=by omega
     obtain⟨o,ho⟩:∃ o,L[i]?=some o:=⟨L[i],by simp[hs]⟩;have z0:w2.cell? ⟨b,i*2,none⟩=some (.string o.nm):=R2.cellAt (j:=0) ho rfl;have f0:=hp.frozen (i*2);have z1:w2.cell? ⟨b,i*2+1,none⟩=some (.slice o.pa o.pn o.pc):=R2.cellAt (j:=1) ho rfl;have f1:=hp.frozen (i*2+1);clear V V2 hA hg hE hl R hp qa x0 x1;go_wp2;have Q0:=R2.set1 (x':=⟨v.nm,o.pa,o.pn,o.pc⟩) (v:=.string v.nm) aI_ (i:=i) (j:=0) (l:=L) (x:=o) (ho) (by decide) rfl;have Q1:=Q0.set1 (x':=v) (v:=.slice v.pa v.pn v.pc) aI_ (i:=i) (j:=1) (l:=(L.set i ⟨v.nm,o.pa,o.pn,o.pc⟩)) (x:=⟨v.nm,o.pa,o.pn,o.pc⟩) (by simp[hs]) (by decide) rfl;rw[List.set_set] at Q1;have hH:w2.grownBy ((w2.setCell ⟨b,i*2,none⟩ (.string v.nm)).setCell ⟨b,i*2+1,none⟩ (.slice v.pa v.pn v.pc)) (some b):=af_ (af_ (Yh _ _) _ _) _ _
     have hy:Hid ((L.set i v).take (i+1)=(rows.take (j+1)).filter (fun r=>!(q r))):=by
      show _=_;rw[cU_ hs,hb,hm.out]
     have h2:Hid ((L.set i v).drop (j+1)=rows.drop (j+1)):=by
      show _=_;rw[List.drop_set_of_lt (by omega)];exact hL
     have qe:=hI2 _ _ hV hH;have hY:=aV_ hF hH;go_roundw
     case rel=>exact⟨i+1,j+1,L.set i v,by omega,by omega,by go_num,by go_num,Q1,hy,h2,qe,hY⟩
     case measure=>simp[intOf];omega
    ·rw[hQ] at hb;simp only[if_true,Yy] at hb;have hy:Hid (L.take i=(rows.take (j+1)).filter (fun r=>!(q r))):=by show _=_;rw[hb];exact hm.out
     clear V V2 hA hg hE hl R hp;go_wp2;go_roundw
     case rel=>exact⟨i,j+1,L,by omega,by omega,rfl,by go_num,R2,hy,hL,hV,hF⟩
     case measure=>simp[intOf];omega
   ·obtain rfl:j=n:=by omega
    have hs:i<=L.length:=by omega
    have he:Hid (L.take i=rows.filter (fun r=>!(q r))):=by show _=_;rw[hm.out,Zk (Zm hf.out)]
    rcases R.own with⟨h0,_⟩ | ⟨b',h6,hX,qb,h7,c,hc,hK,hb⟩
    ·cases h0
    cases h6
    have hC:i*2+(j-i)*2<=c.size:=by
     rw[hK,<-Yd];exact ZS _ (by omega)
    obtain⟨W2,c2,qg,hJ,hR,hS,h8⟩:=fy_ (P:=prog) wr 36 134 (.agg #[.string .empty,.slice none 0 0]) underlying36 Tryz.zeroValue134 p5_ 2 rfl b (i*2) (j-i) (cap-i) c 134 hc hC
    have h5:Ad irs 2 134 W2 B (some ⟨b,0,none⟩) i cap (rows.filter (fun r=>!(q r))):=by
     refine bM_ aI_ hJ hX ?_ (by omega) h7 (by rw[hR,hK]) ?_
     ·rw[<-he.out,Zz];omega
     ·rw[hS,<-he.out,<-cq_ aI_,<-hb,List.take_take,ZZ (ZS _ (by omega))]
    have hZ:=aV_ hG h8;have qf:¬ (cap=i):=by omega
    have qh:(0:Int)<=i:=by omega
    have qk:(i:Int)<=(j:Int):=by omega
    clear hR hS hJ hc hb hm hx he R;go_wp2;go_returns;exact⟨i,rfl,h5,hZ⟩
theorem AC.uncons {y:It}{l:List It}(h:AC B w (r::rows) (y::l)):BU B w r y∧AC B w rows l:=
 ⟨h.at' 0 r y rfl rfl,by have:=h.len;simpa using this,fun i q z h1 h2=>h.at' (i+1) q z (by simpa using h1) (by simpa using h2)⟩
theorem AC.filt {f:List UInt8}:∀ {rows:List IR} {l:List It},AC B w rows l->AC B w (rows.filter (fun r=>!(r.nm.toList==f))) (l.filter (fun y=>!(y.nm.toList==f)))
 |[],[],h=>h
 |[],_::_,h=>by have:=h.len;simp at this
 |_::_,[],h=>by have:=h.len;simp at this
 |r::rows,y::l,h=>by
  obtain⟨h1,h2⟩:=h.uncons;have e:=h1.nm;rw[ZH,ZH,e];split
  ·exact AC.cons h1 (AC.filt h2)
  ·exact AC.filt h2
def BL (y:Vo)(file:ByteArray):Int⊕List It:=match AO y file with | none=>.inl 3 | some _=>.inr (y.its.filter (fun t=>!(t.nm.toList==file.toList)))
theorem jx_ (xb:Nat)(file:ByteArray):eT_ (fun u=>u.cell? ⟨xb,1,none⟩=some (.string file)) (.func (.func 144) #[] #[.pointer (some ⟨xb,0,none⟩)]) (fun r=>r.nm.toList==file.toList):=by
 refine⟨_,_,rfl,fun x y u=>by kernel_rfl,fun u r hu=>?_⟩;go_enter func144,ntmps144;have hx:=fun ob=>Am (w:=u) ob hu
 cases h:(r.nm.toList==file.toList)
 ·have h':¬ r.nm.toList=file.toList:=by simpa using h
  go_wp2;go_returns;exact⟨rfl,by go_grown⟩
 ·have h':r.nm.toList=file.toList:=by simpa using h
  go_wp2;go_returns;exact⟨rfl,by go_grown⟩
theorem nB_ (h:AO y file=some l):0<y.its.length:=by
 cases hy:y.its with
 |nil=>unfold AO itI at h;rw[hy] at h;simp at h
 |cons a t=>simp
theorem kJ_ (S:Addr->Prop)(B:Nat)(h0:0<B)(vb vn vc i:Nat)(rows:List VR)(r:VR)(y:Vo)(vol file:ByteArray)(w:World)(_:B<=w.heap.size)(F:Foc B vb vn vc i rows r y w)(hS:BO S w):
  Calls prog 102 #[.pointer (some ⟨vb,i*4,none⟩),.agg #[.string vol,.string file]] w fun e w'=>Gd S B vb vn vc i rows r y w e w' (BL y file):=by
 have hR:Hid (BL y file=match AO y file with | none=>.inl 3 | some _=>.inr (y.its.filter (fun t=>!(t.nm.toList==file.toList)))):=rfl;generalize BL y file=R at *;obtain⟨W0,he⟩:∃ W,W=w.alloc (.cells #[.string vol,.string file] 182):=⟨_,rfl⟩;have hq:Below w.heap.size w W0:=by rw[he];exact (Yg _ _).alloc (Zd _) _
 have X:Blk W0 w.heap.size #[.string vol,.string file] 182:=by rw[he];exact Blk.new _ _ _
 go_enter func102,ntmps102
 go_wp2_with fail
 rw[<-he];clear he;have F0:=F.below hq;refine (bv_ B vb (i*4) h0 y file W0 (F0.v.at F0.rv F0.hi) (by have:=F.len;omega) F.str).mono ?_;rintro e w1 ⟨ha,hl⟩;have F1:=F0.below hl;have hC:=Aa hq hl;have hv:=hS.below hC;replace X:=X.below hl;have x1:w1.cell? ⟨w.heap.size,1,none⟩=some (.string file):=X.cell 1;have hz:=hC.size;change CW B e w1 (AO y file) at ha
 cases hf:AO y file with
 |none=>
  rw[hf] at ha;obtain rfl:=ha;obtain⟨ef,hw,hy⟩:=hv.file;have g:w1.cell? ⟨8,0,none⟩=_:=hw;go_wp2;go_returns;rw[hR.out,hf];exact⟨⟨ef,hy,rfl⟩,hC⟩
 |some l=>
  rw[hf] at ha;obtain⟨pa,pn,pc,rfl,_⟩:=ha;obtain⟨rowsI,RI,TI⟩:=F1.v.its;have hE:0<y.its.length:=nB_ hf;have hD:=TI.len;have hG:rowsI.length=r.pn:=RI.sl.len;have hx:=F.len;obtain⟨ib,hh,hB,_,_⟩:=RI.addr (by omega);have hp:=F1.rv;have y3:w1.cell? ⟨vb,i*4+3,none⟩=some (.slice r.pa r.pn r.pc):=hp.cellAt F1.hi rfl;rw[hh] at RI y3
  have hA:¬ w.heap.size=ib:=by
   obtain⟨cc,hc⟩:=RI.blkAt;intro e;rw[<-e] at hc;unfold Blk at hc X;rw[hc] at X;injection X with q;injection q with _ q2
   exact absurd q2 (by decide)
  go_wp2_with fail
  refine (hV_ (fun u=>u.cell? ⟨w.heap.size,1,none⟩=some (.string file)) _ (fun r=>r.nm.toList==file.toList) (jx_ w.heap.size file) (fun u u' h hb=>Ab hb h) B ib r.pn r.pc (fun u u' h hg=>hg.cell h (by simpa using hA)) rowsI w1 RI x1 (by omega)).mono ?_;rintro e w2 ⟨m,rfl,R2,hn⟩;have hH:=RI.rowTy (m:=r.pn) (k:=r.pc);obtain⟨cc,hc⟩:=RI.blkAt;have hj:=hp.ty hn (aa_ hc) (by decide);have ht:=TI.tyR hn (aa_ hc) (by decide);have y3b:w2.cell? ⟨vb,i*4+3,none⟩=some (.slice r.pa r.pn r.pc):=hj.cellAt F1.hi rfl;obtain⟨cv,hm⟩:=hj.blkAt;have fv:=hm.frozen (i*4+3);clear y3 x1;go_wp2;have ho:w2.grownBy (w2.setCell ⟨vb,i*4+3,none⟩ (.slice (some ⟨ib,0,none⟩) m r.pc)) (some vb):=af_ (Yh _ _) _ _;have hs:=hj.set1 (x':=⟨r.id,r.nm,r.fx,some ⟨ib,0,none⟩,m,r.pc⟩) (v:=.slice (some ⟨ib,0,none⟩) m r.pc) a2_ F1.hi (j:=3) (by decide) rfl;have R4:=R2.ty ho (aa_ hm) (by decide);have hu:=(ht.tyR ho (aa_ hm) (by decide)).filt (f:=file.toList);have hF:=((FrL.of_below (bs:=vb::AT r.pa) hC).new (FrL.of_grown (bs:=[ib]) hn (fun k e=>.inl (by cases e;simp))) (fun k hk=>.inl (by simp at hk;subst hk;rw[hh];simp[AT]))).new (FrL.of_grown (bs:=[vb]) ho (fun k e=>.inl (by cases e;simp))) (fun k hk=>.inl (by simp at hk;subst hk;simp));go_returns;rw[hR.out,hf];exact⟨rfl,_,hs,⟨F1.v.id,F1.v.nm,F1.v.fx,_,R4,hu⟩,hF,⟨fun ad e=>.inl (by cases e;rw[hh];simp[AT]),fun rs hr=>by rw[hh] at hr;rw[co_ (hr.below hC) RI.sl,cv_ (r:=⟨r.id,r.nm,r.fx,some ⟨ib,0,none⟩,m,r.pc⟩) R4.sl];exact Dy.sub (List.filter_sublist.filterMap _)⟩⟩
theorem oF_ (S:Addr->Prop)(B vb vn vc i:Nat)(rows:List VR)(r:VR)(y:Vo)(w:World)(F:Foc B vb vn vc i rows r y w)(hS:BO S w):
  Calls prog 97 #[.pointer (some ⟨vb,i*4,none⟩)] w fun e w'=>(y.fx=true∧(∃ a,S a∧e=.returned (BJ 6 a))∧w'=w)∨(y.fx=false∧e=.returned .nilIface∧Ad vrs 4 38 w' B (some ⟨vb,0,none⟩) vn vc (rows.set i {r with fx:=true})∧Bd B w' {r with fx:=true} {y with fx:=true}∧w.grownBy w' (some vb)):=by
 have x2:w.cell? ⟨vb,i*4+2,none⟩=some (.bool r.fx):=F.rv.cellAt F.hi rfl;have ha:Hid (r.fx=y.fx):=F.v.fx
 cases hr:r.fx
 ·rw[hr] at x2 ha;obtain⟨cv,hb⟩:=F.rv.blkAt;have fv:=hb.frozen (i*4+2);go_enter func97,ntmps97;go_wp2;have hc:w.grownBy (w.setCell ⟨vb,i*4+2,none⟩ (.bool true)) (some vb):=af_ (Yh _ _) _ _;have he:=F.rv.set1 (x':={r with fx:=true}) (v:=.bool true) a2_ F.hi (j:=2) (by decide) rfl;have V4:=F.v.ty hc (aa_ hb) (by decide) (by decide);go_returns;exact .inr ⟨ha.out.symm,rfl,he,⟨V4.id,V4.nm,rfl,V4.its⟩,hc⟩
 ·rw[hr] at x2 ha;obtain⟨ef,hf,hg⟩:=hS.fixed;have g:w.cell? ⟨5,0,none⟩=_:=hf;go_enter func97,ntmps97;go_wp2;go_returns;exact .inl ⟨ha.out.symm,⟨ef,hg,rfl⟩,rfl⟩
end
end Go.Proofs.YtdmeabghpchckaaGreatDoor
