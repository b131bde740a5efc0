/- Appends at the program's own types, in few words. -/
import Derived.Test.YtdmeabghpchckaaGreatDoorU08
import Derived.Test.YtdmeabghpchckaaGreatDoorU12
set_option maxHeartbeats 20000000
set_option maxRecDepth 100000
namespace Go.Proofs.YtdmeabghpchckaaGreatDoor
section
open Go Go.RowKit Go.BigFrame Tryz
theorem cd_ (w:World)(r:IR)(t:TypeId)(b:Nat)(hb:b=w.heap.size):AE irs 2 (w.alloc (.cells #[.string r.nm,.slice r.pa r.pn r.pc] t)) (some ⟨b,0,none⟩) 1 [r]:=jo_ r (Blk.new' w _ t b hb) rfl
theorem HN {w:World}{b:Nat}{c0 c1 c2 c3:Value}{t:TypeId}(h:Blk w b #[c0,c1,c2,c3] t)(v0 v1 v2 v3:Value):
  Blk ((((w.setCell ⟨b,0,none⟩ v0).setCell ⟨b,1,none⟩ v1).setCell ⟨b,2,none⟩ v2).setCell ⟨b,3,none⟩ v3) b #[v0,v1,v2,v3] t∧w.grownBy ((((w.setCell ⟨b,0,none⟩ v0).setCell ⟨b,1,none⟩ v1).setCell ⟨b,2,none⟩ v2).setCell ⟨b,3,none⟩ v3) (some b):=
 ⟨by simpa using (((h.set 0 v0).set 1 v1).set 2 v2).set 3 v3,af_ (af_ (af_ (BW w b 0 v0) 1 v1) 2 v2) 3 v3⟩
end
section
open Go Go.RowKit Go.BigFrame Tryz
variable{α:Type}{a:Act}{K:Act->World->Prop}{b j k n:Nat}{o:Oper}{x:Value}{u w:World}{S:World->Prop}{l:List α}{cs:α->List Value}
theorem eq_ (B0:Nat)(hB0:0<B0)(id:Int)(nm:ByteArray)(fx:Bool)(its:List It)(qa:Option Addr)(qn qc:Nat)(w:World)(h:Bf B0 w qa qn its)(hn:qn<=4194304)(hps:∀ x∈its,x.ps.length<=4194304):
  Calls prog 117 #[.agg #[.int .i64 id,.string nm,.bool fx,.slice qa qn qc]] w fun e w'=>(∃ pa pc rows,e=.returned (.agg #[.int .i64 id,.string nm,.bool fx,.slice pa qn pc])∧Ad irs 2 134 w' w.heap.size pa qn pc rows∧AC w.heap.size w' rows its)∧Below w.heap.size w w':=by
 have hl:Hid (its.length=qn):=h.len;go_enter func117,ntmps117
 go_wp2_with fail
 go_loopw [4] (fun ix wr=>∃ (k:Nat) (a2:Option Addr) (cap2:Nat) (rows:List IR),k<=qn∧ix=.int .i64 k∧Blk wr w.heap.size #[.int .i64 id,.string nm,.bool fx,.slice qa qn qc] 38∧Blk wr (w.heap.size+1) #[.int .i64 0,.string ⟨#[]⟩,.bool false,.slice none 0 0] 38∧Blk wr (w.heap.size+2) #[.int .i64 id,.string nm,.bool fx,.slice a2 k cap2] 38∧Ad irs 2 134 wr (w.heap.size+3) a2 k cap2 rows∧AC (w.heap.size+3) wr rows (its.take k)∧w.heap.size+3<=wr.heap.size∧Below w.heap.size w wr) (fun ix _=>qn-(intOf ix).toNat)
 case atStart=>exact⟨0,none,0,[],Zg _,rfl,((Blk.new w _ _).alloc _).alloc _,(Blk.new' _ _ _ _ (by simp)).alloc _,Blk.new' _ _ _ _ (by simp),aB_,by simpa using AC.nil _ _,by simp,by go_grown⟩
 case round=>
  obtain⟨k,a2,cap2,rows,hk,rfl,K1,K2,K3,R2,T2,hD,hB⟩:=hrel;have z3:wr.cell? ⟨w.heap.size,3,none⟩=some (.slice qa qn qc):=K1.cell 3;have y3:wr.cell? ⟨w.heap.size+2,3,none⟩=some (.slice a2 k cap2):=K3.cell 3;by_cases hlt:k<qn
  ·obtain⟨b,o,x,pa,pn,pc,rfl,hx,d0,d1,hP,hh,_,_⟩:=bO_ (h.below hB) hlt;have hA:pn<=4194304:=by have:=hps x (Zc hx);rw[hP.len] at this;exact this
   have hy:(k:Int)<qn:=by omega
   have hz:(0:Int)<=k:=by omega
   have hs:∀ ad,pa=some ad->ad.spot=none:=(hh.2.2 hB0).2;have ht:pa=none->pc=0:=(hh.2.2 hB0).1
   have hq:b<w.heap.size:=by
    obtain⟨b',o',_,_,_,_,hp,_,f0,_⟩:=bO_ h hlt;obtain⟨rfl,rfl⟩:b=b'∧o=o':=by simpa using hp
    exact Yk w _ f0
   have ho:b<w.heap.size+3:=by omega
   have hw:¬ w.heap.size+1+1=b:=by omega
   have hF:w.heap.size<w.heap.size+3:=by omega
   have hu:Hid (its.take (k+1)=its.take k++[x]):=bx_ hx;clear hx;have za:=fun ob=>Am (w:=wr) ob z3;have ya:=fun ob=>Am (w:=wr) ob y3;have da:=fun ob=>Am (w:=wr) ob d0;have de:=fun ob=>Am (w:=wr) ob d1
   go_wp2_with fail
   have hv:(fun u=>u.cell? ⟨w.heap.size,3,none⟩=some (.slice (some ⟨b,o,none⟩) qn qc)∧u.cell? ⟨w.heap.size+1+1,3,none⟩=some (.slice a2 k cap2)∧u.cell? ⟨b,o+k*2,none⟩=some (.string x.nm)∧u.cell? ⟨b,o+k*2+1,none⟩=some (.slice pa pn pc)) wr.drew:=⟨z3,y3,d0,d1⟩;refine ar_ (S:=(fun u=>u.cell? ⟨w.heap.size,3,none⟩=some (.slice (some ⟨b,o,none⟩) qn qc)∧u.cell? ⟨w.heap.size+1+1,3,none⟩=some (.slice a2 k cap2)∧u.cell? ⟨b,o+k*2,none⟩=some (.string x.nm)∧u.cell? ⟨b,o+k*2+1,none⟩=some (.slice pa pn pc))) 20 (by kernel_rfl) (by kernel_rfl) ?_;refine tk 0 ?_;refine tk 1 ?_;refine tk 2 ?_;refine tk 3 ?_;refine tk 4 ?_;refine tk 5 ?_;refine tk 6 ?_;refine tk 7 ?_;refine tk 9 ?_;refine tk 10 ?_;refine tk 11 ?_;refine tk 12 ?_;refine tk 13 ?_;refine tk 14 ?_;refine AW (i:=8) (by kernel_rfl) rfl (fun K hK=>?_);go_simp;refine hK.out _ _ ⟨za _,ya _,da _,de _⟩ (fun hHeld=>?_);clear hK K
   try simp only[Act.put,lsA,lsB,lsC]
   refine AW (i:=15) (by kernel_rfl) rfl (fun K hK=>?_);refine aJ_ rfl (mF_ _ _ rfl wr.heap.size _ 0 0 [] rfl (aw_ (Blk.new' _ _ _ _ (by simp)) (by simp)) pa pn pc x.ps rfl (hP.below (by go_grown)) hs ht pn (Zq _) (by omega) (by simp) ?_);intro a3 cap3 w3 R3 hr;have hb:Below wr.heap.size wr w3:=Yi (by go_grown) hr (by simp) (fun j e=>by simp[Value.ownBlock] at e;omega);have hC:=hb.size;refine hK.out _ _ ⟨Ab hb z3,Ab hb y3,Ab hb d0,Ab hb d1⟩ (fun hHeld=>?_);clear hK K
   try simp only[Act.put,lsA,lsB,lsC]
   refine tk 16 ?_;refine AW (i:=17) (by kernel_rfl) rfl (fun K hK=>?_);go_simp;refine hK.out _ _ ⟨Am _ (Ab hb z3),Am _ (Ab hb y3),Am _ (Ab hb d0),Am _ (Ab hb d1)⟩ (fun hHeld=>?_);clear hK K
   try simp only[Act.put,lsA,lsB,lsC]
   refine AW (i:=18) (by kernel_rfl) rfl (fun K hK=>?_);have ha:Below wr.heap.size wr (w3.alloc (.cells #[.string x.nm,.slice a3 pn cap3] 134)):=Aa hb (by go_grown);refine aJ_ rfl (g4_ _ _ rfl (w.heap.size+3) a2 k cap2 rows rfl (R2.below ha) _ 1 1 [(⟨x.nm,a3,pn,cap3⟩:IR)] rfl (cd_ _ (⟨x.nm,a3,pn,cap3⟩:IR) _ _ (by simp)) (fun ad h=>(by cases h;rfl)) (fun h=>(by cases h)) (k+1) rfl (by omega) (by have:=ha.size;omega) ?_);intro a4 cap4 w4 R4 he;have hc:∀ j,Value.ownBlock (.slice a2 k cap2)=some j->w.heap.size+3<=j:=aG_ fun ad hf=>(R2.block ad hf).1;have L1:=(K1.below ha).offB he hc (by omega);have L3:=(K3.below ha).offB he hc (by omega);have L2:=(K2.below ha).offB he hc (by omega);have e0:=he.cell (a:=⟨b,o+k*2,none⟩) (Ab ha d0) (at_ (fun ad hf=>(R2.block ad hf).1) ho);have e1:=he.cell (a:=⟨b,o+k*2+1,none⟩) (Ab ha d1) (at_ (fun ad hf=>(R2.block ad hf).1) ho);refine hK.out _ _ ⟨L1.cell 3,L3.cell 3,e0,e1⟩ (fun hHeld=>?_);clear hK K
   try simp only[Act.put,lsA,lsB,lsC]
   refine tk 19 ?_;refine wpAnyH_done (by kernel_rfl) ?_ _;refine BI rfl ?_;have y4:w4.cell? ⟨w.heap.size+1+1,3,none⟩=some (.slice a2 k cap2):=L3.cell 3;have f4:w4.frozen? ⟨w.heap.size+1+1,3,none⟩=false:=L3.frozen 3;go_wp2;go_roundw
   case rel=>
    have hj:=BW w4 (w.heap.size+1+1) 3 (.slice a4 (k+1) cap4);have hE:=hB.size;refine⟨k+1,a4,cap4,rows++[⟨x.nm,a3,pn,cap3⟩],by omega,by go_num,L1.other _ _ (by simp only[ne_eq];omega),L2.other _ _ (by simp only[ne_eq];omega),by simpa using L3.set 3 (.slice a4 (k+1) cap4),R4.ty hj (aa_ L3) (by decide),?_,?_,?_⟩
    ·rw[hu.out];have hm:=(((R3.alloc (.cells #[.string x.nm,.slice a3 pn cap3] 134)).ty he (R2.below ha).rowTy (by decide)).mono (show w.heap.size+3<=wr.heap.size by omega));rw[ZM] at hm;exact (((T2.below ha).ty he (R2.below ha).rowTy (by decide)).snoc ⟨rfl,hm⟩).ty hj (aa_ L3) (by decide)
    ·have h4:=L3.lt
     have:=hj.size
     omega
    ·exact Below.setCell (Yi (Aa hB ha) he (by have:=ha.size;omega) (fun j e=>by have:=hc j e;omega)) (by simp only;omega) _
   case measure=>simp[intOf];omega
  ·obtain rfl:k=qn:=by omega
   obtain⟨y0,y1,y2,_⟩:=K3.four;obtain⟨x0,x1,x2,x3⟩:=K2.four;have f0:=K2.frozen 0;have f1:=K2.frozen 1;have f2:=K2.frozen 2;have f3:=K2.frozen 3;obtain⟨W0,hg⟩:=HN K2 (.int .i64 id) (.string nm) (.bool fx) (.slice a2 k cap2);have R0:=R2.ty hg (aa_ K2) (by decide);have T0:=T2.ty hg (aa_ K2) (by decide);have B1:=hB.grown hg hB.size (fun j e=>by cases e;omega);go_wp2;generalize (((wr.setCell ⟨w.heap.size+1,0,none⟩ (.int .i64 id)).setCell ⟨w.heap.size+1,1,none⟩ (.string nm)).setCell ⟨w.heap.size+1,2,none⟩ (.bool fx)).setCell ⟨w.heap.size+1,3,none⟩ (.slice a2 k cap2)=W8 at *;refine YW (results_cell_row rfl _ W8 (w.heap.size+1) _ _ _ _ rfl W0 underlying38 rfl (by kernel_rfl)) rfl ?_;rw[Zk (Zm hl.out)] at T0;exact⟨⟨a2,cap2,rows,rfl,R0.mono (by omega),T0.mono (by omega)⟩,B1⟩
def A8 (a:Act)(x9 x12 x13 x16 x17 x20 x21 x3:Value):Act:=((((((((a.put (some 9) x9).put (some 12) x12).put (some 13) x13).put (some 16) x16).put (some 17) x17).put (some 20) x20).put (some 21) x21).put (some 3) x3)
theorem pW_ (a:Act)(x9 x12 x13 x16 x17 x20 x21 x3 v:Value):(A8 a x9 x12 x13 x16 x17 x20 x21 x3).put (some 9) v=A8 a v x12 x13 x16 x17 x20 x21 x3:=by
 unfold A8;rw[ax_ (show (3:Nat)≠9 by decide),ax_ (show (21:Nat)≠9 by decide),ax_ (show (20:Nat)≠9 by decide),ax_ (show (17:Nat)≠9 by decide),ax_ (show (16:Nat)≠9 by decide),ax_ (show (13:Nat)≠9 by decide),ax_ (show (12:Nat)≠9 by decide),ce_]
theorem pr_ (h:a.tmps.size=41)(x9 x12 x13 x16 x17 x20 x21 x3:Value):(A8 a x9 x12 x13 x16 x17 x20 x21 x3).eval (.tmp 9)=x9:=by
 unfold A8;rw[aj_ (show (3:Nat)≠9 by decide),aj_ (show (21:Nat)≠9 by decide),aj_ (show (20:Nat)≠9 by decide),aj_ (show (17:Nat)≠9 by decide),aj_ (show (16:Nat)≠9 by decide),aj_ (show (13:Nat)≠9 by decide),aj_ (show (12:Nat)≠9 by decide),cp_ (by first | omega | (simp only[dd_];omega))]
theorem ps_ (a:Act)(x9 x12 x13 x16 x17 x20 x21 x3 v:Value):(A8 a x9 x12 x13 x16 x17 x20 x21 x3).put (some 12) v=A8 a x9 v x13 x16 x17 x20 x21 x3:=by
 unfold A8;rw[ax_ (show (3:Nat)≠12 by decide),ax_ (show (21:Nat)≠12 by decide),ax_ (show (20:Nat)≠12 by decide),ax_ (show (17:Nat)≠12 by decide),ax_ (show (16:Nat)≠12 by decide),ax_ (show (13:Nat)≠12 by decide),ce_]
theorem od_ (h:a.tmps.size=41)(x9 x12 x13 x16 x17 x20 x21 x3:Value):(A8 a x9 x12 x13 x16 x17 x20 x21 x3).eval (.tmp 12)=x12:=by
 unfold A8;rw[aj_ (show (3:Nat)≠12 by decide),aj_ (show (21:Nat)≠12 by decide),aj_ (show (20:Nat)≠12 by decide),aj_ (show (17:Nat)≠12 by decide),aj_ (show (16:Nat)≠12 by decide),aj_ (show (13:Nat)≠12 by decide),cp_ (by first | omega | (simp only[dd_];omega))]
theorem pt_ (a:Act)(x9 x12 x13 x16 x17 x20 x21 x3 v:Value):(A8 a x9 x12 x13 x16 x17 x20 x21 x3).put (some 13) v=A8 a x9 x12 v x16 x17 x20 x21 x3:=by
 unfold A8;rw[ax_ (show (3:Nat)≠13 by decide),ax_ (show (21:Nat)≠13 by decide),ax_ (show (20:Nat)≠13 by decide),ax_ (show (17:Nat)≠13 by decide),ax_ (show (16:Nat)≠13 by decide),ce_]
theorem oe_ (h:a.tmps.size=41)(x9 x12 x13 x16 x17 x20 x21 x3:Value):(A8 a x9 x12 x13 x16 x17 x20 x21 x3).eval (.tmp 13)=x13:=by
 unfold A8;rw[aj_ (show (3:Nat)≠13 by decide),aj_ (show (21:Nat)≠13 by decide),aj_ (show (20:Nat)≠13 by decide),aj_ (show (17:Nat)≠13 by decide),aj_ (show (16:Nat)≠13 by decide),cp_ (by first | omega | (simp only[dd_];omega))]
theorem pu_ (a:Act)(x9 x12 x13 x16 x17 x20 x21 x3 v:Value):(A8 a x9 x12 x13 x16 x17 x20 x21 x3).put (some 16) v=A8 a x9 x12 x13 v x17 x20 x21 x3:=by
 unfold A8;rw[ax_ (show (3:Nat)≠16 by decide),ax_ (show (21:Nat)≠16 by decide),ax_ (show (20:Nat)≠16 by decide),ax_ (show (17:Nat)≠16 by decide),ce_]
theorem of_ (h:a.tmps.size=41)(x9 x12 x13 x16 x17 x20 x21 x3:Value):(A8 a x9 x12 x13 x16 x17 x20 x21 x3).eval (.tmp 16)=x16:=by
 unfold A8;rw[aj_ (show (3:Nat)≠16 by decide),aj_ (show (21:Nat)≠16 by decide),aj_ (show (20:Nat)≠16 by decide),aj_ (show (17:Nat)≠16 by decide),cp_ (by first | omega | (simp only[dd_];omega))]
theorem pv_ (a:Act)(x9 x12 x13 x16 x17 x20 x21 x3 v:Value):(A8 a x9 x12 x13 x16 x17 x20 x21 x3).put (some 17) v=A8 a x9 x12 x13 x16 v x20 x21 x3:=by
 unfold A8;rw[ax_ (show (3:Nat)≠17 by decide),ax_ (show (21:Nat)≠17 by decide),ax_ (show (20:Nat)≠17 by decide),ce_]
theorem og_ (h:a.tmps.size=41)(x9 x12 x13 x16 x17 x20 x21 x3:Value):(A8 a x9 x12 x13 x16 x17 x20 x21 x3).eval (.tmp 17)=x17:=by
 unfold A8;rw[aj_ (show (3:Nat)≠17 by decide),aj_ (show (21:Nat)≠17 by decide),aj_ (show (20:Nat)≠17 by decide),cp_ (by first | omega | (simp only[dd_];omega))]
theorem pw_ (a:Act)(x9 x12 x13 x16 x17 x20 x21 x3 v:Value):(A8 a x9 x12 x13 x16 x17 x20 x21 x3).put (some 20) v=A8 a x9 x12 x13 x16 x17 v x21 x3:=by
 unfold A8;rw[ax_ (show (3:Nat)≠20 by decide),ax_ (show (21:Nat)≠20 by decide),ce_]
theorem oh_ (h:a.tmps.size=41)(x9 x12 x13 x16 x17 x20 x21 x3:Value):(A8 a x9 x12 x13 x16 x17 x20 x21 x3).eval (.tmp 20)=x20:=by
 unfold A8;rw[aj_ (show (3:Nat)≠20 by decide),aj_ (show (21:Nat)≠20 by decide),cp_ (by first | omega | (simp only[dd_];omega))]
theorem px_ (a:Act)(x9 x12 x13 x16 x17 x20 x21 x3 v:Value):(A8 a x9 x12 x13 x16 x17 x20 x21 x3).put (some 21) v=A8 a x9 x12 x13 x16 x17 x20 v x3:=by
 unfold A8;rw[ax_ (show (3:Nat)≠21 by decide),ce_]
theorem pX_ (a:Act)(x9 x12 x13 x16 x17 x20 x21 x3 v:Value):(A8 a x9 x12 x13 x16 x17 x20 x21 x3).put (some 3) v=A8 a x9 x12 x13 x16 x17 x20 x21 v:=by
 unfold A8;rw[ce_]
theorem py_ (a:Act)(x9 x12 x13 x16 x17 x20 x21 x3:Value):(A8 a x9 x12 x13 x16 x17 x20 x21 x3).eval (.tmp 6)=a.eval (.tmp 6):=by
 unfold A8;rw[aj_ (show (3:Nat)≠6 by decide),aj_ (show (21:Nat)≠6 by decide),aj_ (show (20:Nat)≠6 by decide),aj_ (show (17:Nat)≠6 by decide),aj_ (show (16:Nat)≠6 by decide),aj_ (show (13:Nat)≠6 by decide),aj_ (show (12:Nat)≠6 by decide),aj_ (show (9:Nat)≠6 by decide)]
theorem pz_ (a:Act)(x9 x12 x13 x16 x17 x20 x21 x3:Value):(A8 a x9 x12 x13 x16 x17 x20 x21 x3).eval (.tmp 8)=a.eval (.tmp 8):=by
 unfold A8;rw[aj_ (show (3:Nat)≠8 by decide),aj_ (show (21:Nat)≠8 by decide),aj_ (show (20:Nat)≠8 by decide),aj_ (show (17:Nat)≠8 by decide),aj_ (show (16:Nat)≠8 by decide),aj_ (show (13:Nat)≠8 by decide),aj_ (show (12:Nat)≠8 by decide),aj_ (show (9:Nat)≠8 by decide)]
theorem oi_ (a:Act)(x9 x12 x13 x16 x17 x20 x21 x3:Value):(A8 a x9 x12 x13 x16 x17 x20 x21 x3).eval (.tmp 11)=a.eval (.tmp 11):=by
 unfold A8;rw[aj_ (show (3:Nat)≠11 by decide),aj_ (show (21:Nat)≠11 by decide),aj_ (show (20:Nat)≠11 by decide),aj_ (show (17:Nat)≠11 by decide),aj_ (show (16:Nat)≠11 by decide),aj_ (show (13:Nat)≠11 by decide),aj_ (show (12:Nat)≠11 by decide),aj_ (show (9:Nat)≠11 by decide)]
theorem oj_ (a:Act)(x9 x12 x13 x16 x17 x20 x21 x3:Value):(A8 a x9 x12 x13 x16 x17 x20 x21 x3).eval (.tmp 15)=a.eval (.tmp 15):=by
 unfold A8;rw[aj_ (show (3:Nat)≠15 by decide),aj_ (show (21:Nat)≠15 by decide),aj_ (show (20:Nat)≠15 by decide),aj_ (show (17:Nat)≠15 by decide),aj_ (show (16:Nat)≠15 by decide),aj_ (show (13:Nat)≠15 by decide),aj_ (show (12:Nat)≠15 by decide),aj_ (show (9:Nat)≠15 by decide)]
theorem ok_ (a:Act)(x9 x12 x13 x16 x17 x20 x21 x3:Value):(A8 a x9 x12 x13 x16 x17 x20 x21 x3).eval (.tmp 19)=a.eval (.tmp 19):=by
 unfold A8;rw[aj_ (show (3:Nat)≠19 by decide),aj_ (show (21:Nat)≠19 by decide),aj_ (show (20:Nat)≠19 by decide),aj_ (show (17:Nat)≠19 by decide),aj_ (show (16:Nat)≠19 by decide),aj_ (show (13:Nat)≠19 by decide),aj_ (show (12:Nat)≠19 by decide),aj_ (show (9:Nat)≠19 by decide)]
def H1 (x y:Value):Prop:=∀ a n cap a' n' cap',x=.slice a n cap->y=.slice a' n' cap'->∀ p q,a=some p->a'=some q->0<cap->0<cap'->p.block≠q.block
theorem cM_ (a:Option Addr)(n cap:Nat)(l:List Pt)(at':Int)(a':Option Addr)(n' cap':Nat)(m:List Pt)(w:World)(h:AM w a n l)(h':AM w a' n' m)(hok:Ac l=true)(hok':Ac m=true)(h0:0<=at')(h1:at'<=100):
  Calls prog 121 #[.slice a n cap,.int .i64 at',.slice a' n' cap'] w fun e w'=>(∃ a1 n1 cap1,e=.returned (.slice a1 n1 cap1)∧n1<=1000∧Ad Pt.cs 3 146 w' w.heap.size a1 n1 cap1 (AH l at' m))∧Below w.heap.size w w':=by
 have hh:n<=16:=by rw[<-h.len];exact (ae_ hok).1
 have hu:n'<=16:=by rw[<-h'.len];exact (ae_ hok').1
 have hs:Hid (∀ k,0<=Af (l.take k)∧Af (l.take k)<=100):=i8_ hok;have hn:Hid (∀ k,0<=Af (m.take k)∧Af (m.take k)<=100):=i8_ hok';have ht:=(ae_ hok).2.2;have hB:=az_ l (ae_ hok).2.1;have ho:=(ae_ hok').2.2;have hy:=az_ m (ae_ hok').2.1;have hj:=hq_ hok;by_cases hgt:Af l<at'
 ·have hl:Hid (AH l at' m=Ak (Ak (AI (Ak [] (slp 0 (Af l) 0 l)) ⟨0,0,at'-Af l⟩) m) (Ak [] (slp (Af l) (Af l) 0 l))):=by
   show _=_;simp only[AH,hgt,if_true];rw[Int.min_eq_right (by omega),Int.min_eq_left (by omega)]
  have hw:¬ at'+Af m<Af l:=by omega
  go_enter func121,ntmps121
  go_wp2_with fail
  refine (aZ_ a n cap l _ h (by omega) hs.out).mono ?_;rintro e w1 ⟨rfl,rfl⟩
  go_wp2_with fail
  refine (ba_ a n cap l 0 (Af l) _ h hh hj (by omega) (by omega) (by omega) (by omega)).mono ?_;rintro e w2 ⟨⟨a2,n2,cap2,rfl,hA,R2⟩,hv⟩
  go_wp2_with fail
  refine (bg_ a2 n2 cap2 _ ⟨0,0,at'-Af l⟩ _ R2.sl (by omega) R2.arg).mono ?_;rintro e w3 ⟨⟨a3,n3,cap3,rfl,R3⟩,hm⟩;have hz:=bZ_ R3.sl.len R2.sl.len;have hf:=Aa hv hm
  go_wp2_with fail
  refine (bS_ a3 n3 cap3 _ a' n' cap' m _ R3.sl (by omega) R3.arg (h'.below hf) (by omega)).mono ?_;rintro e w4 ⟨⟨a4,n4,cap4,rfl,hp,R4⟩,hc⟩;have hb:=Aa hf hc
  go_wp2_with fail
  refine (aZ_ a' n' cap' m _ (h'.below hb) (by omega) hn.out).mono ?_;rintro e w5 ⟨rfl,rfl⟩
  go_wp2_with fail
  refine (ba_ a n cap l (Af l) (Af l) _ (h.below hb) hh hj (by omega) (by omega) (by omega) (by omega)).mono ?_;rintro e w6 ⟨⟨a6,n6,cap6,rfl,hq,R6⟩,ha⟩;have R6b:=R4.below ha;have hg:=Aa hb ha
  go_wp2_with fail
  refine (bS_ a4 n4 cap4 _ a6 n6 cap6 _ _ R6b.sl (by omega) R6b.arg R6.sl (by omega)).mono ?_;rintro e w7 ⟨⟨a7,n7,cap7,rfl,hr,R7⟩,he⟩;have hk:=Aa hg he;go_wp2;go_returns;exact⟨⟨a7,n7,cap7,rfl,by omega,by rw[hl.out];exact R7.mono hg.size⟩,hk⟩
 ·by_cases hm2:at'+Af m<Af l
  ·have hl:Hid (AH l at' m=Ak (Ak (Ak [] (slp 0 at' 0 l)) m) (Ak [] (slp (at'+Af m) (Af l) 0 l))):=by
    show _=_;simp only[AH,hgt,if_false];rw[Int.min_eq_left (by omega),Int.min_eq_right (by omega)]
   go_enter func121,ntmps121
   go_wp2_with fail
   refine (aZ_ a n cap l _ h (by omega) hs.out).mono ?_;rintro e w1 ⟨rfl,rfl⟩
   go_wp2_with fail
   refine (ba_ a n cap l 0 at' _ h hh hj (by omega) (by omega) (by omega) (by omega)).mono ?_;rintro e w2 ⟨⟨a3,n3,cap3,rfl,hx,R3⟩,hf⟩
   go_wp2_with fail
   refine (bS_ a3 n3 cap3 _ a' n' cap' m _ R3.sl (by omega) R3.arg (h'.below hf) (by omega)).mono ?_;rintro e w4 ⟨⟨a4,n4,cap4,rfl,hp,R4⟩,hc⟩;have hb:=Aa hf hc
   go_wp2_with fail
   refine (aZ_ a' n' cap' m _ (h'.below hb) (by omega) hn.out).mono ?_;rintro e w5 ⟨rfl,rfl⟩
   go_wp2_with fail
   refine (ba_ a n cap l (at'+Af m) (Af l) _ (h.below hb) hh hj (by omega) (by omega) (by omega) (by omega)).mono ?_;rintro e w6 ⟨⟨a6,n6,cap6,rfl,hq,R6⟩,ha⟩;have R6b:=R4.below ha;have hg:=Aa hb ha
   go_wp2_with fail
   refine (bS_ a4 n4 cap4 _ a6 n6 cap6 _ _ R6b.sl (by omega) R6b.arg R6.sl (by omega)).mono ?_;rintro e w7 ⟨⟨a7,n7,cap7,rfl,hr,R7⟩,he⟩;have hk:=Aa hg he;go_wp2;go_returns;exact⟨⟨a7,n7,cap7,rfl,by omega,by rw[hl.out];exact R7.mono hg.size⟩,hk⟩
  ·have hl:Hid (AH l at' m=Ak (Ak (Ak [] (slp 0 at' 0 l)) m) (Ak [] (slp (Af l) (Af l) 0 l))):=by
    show _=_;simp only[AH,hgt,if_false];rw[Int.min_eq_left (by omega),Int.min_eq_left (by omega)]
   go_enter func121,ntmps121
   go_wp2_with fail
   refine (aZ_ a n cap l _ h (by omega) hs.out).mono ?_;rintro e w1 ⟨rfl,rfl⟩
   go_wp2_with fail
   refine (ba_ a n cap l 0 at' _ h hh hj (by omega) (by omega) (by omega) (by omega)).mono ?_;rintro e w2 ⟨⟨a3,n3,cap3,rfl,hx,R3⟩,hf⟩
   go_wp2_with fail
   refine (bS_ a3 n3 cap3 _ a' n' cap' m _ R3.sl (by omega) R3.arg (h'.below hf) (by omega)).mono ?_;rintro e w4 ⟨⟨a4,n4,cap4,rfl,hp,R4⟩,hc⟩;have hb:=Aa hf hc
   go_wp2_with fail
   refine (aZ_ a' n' cap' m _ (h'.below hb) (by omega) hn.out).mono ?_;rintro e w5 ⟨rfl,rfl⟩
   go_wp2_with fail
   refine (ba_ a n cap l (Af l) (Af l) _ (h.below hb) hh hj (by omega) (by omega) (by omega) (by omega)).mono ?_;rintro e w6 ⟨⟨a6,n6,cap6,rfl,hq,R6⟩,ha⟩;have R6b:=R4.below ha;have hg:=Aa hb ha
   go_wp2_with fail
   refine (bS_ a4 n4 cap4 _ a6 n6 cap6 _ _ R6b.sl (by omega) R6b.arg R6.sl (by omega)).mono ?_;rintro e w7 ⟨⟨a7,n7,cap7,rfl,hr,R7⟩,he⟩;have hk:=Aa hg he;go_wp2;go_returns;exact⟨⟨a7,n7,cap7,rfl,by omega,by rw[hl.out];exact R7.mono hg.size⟩,hk⟩
end
section
open Go Go.RowKit Go.BigFrame Tryz
variable{size:Int}{l:List Ex}
theorem qp_ (k:Nat)(hk:k<=l.length):(gl size 1 l)[k]?=some ((match l[k]? with | some e=>e.a | none=>size+1)-(glA size l k).2):=by
 rw[lB_ k hk,Zv (by rw[jd_ k hk];omega),jd_ k hk,Nat.sub_self];by_cases h:k<l.length
 ·have hp:l[k]?=some l[k]:=by simp[h]
  rw[al_ hp,hp,gl];rfl
 ·rw[Ze (by omega),show l[k]?=none by simp;omega,gl];rfl
theorem pA_ {m:Int}(k:Nat)(hk:k<l.length+1):B5 size m k (glA size l k).2 (l.drop k)=(if m<=(match l[k]? with | some e=>e.a | none=>size+1)-(glA size l k).2 then some (k,(glA size l k).2) else (if k<l.length then B5 size m (k+1) (glA size l (k+1)).2 (l.drop (k+1)) else none)):=by
 by_cases h:k<l.length
 ·have hp:l[k]?=some l[k]:=by simp[h]
  rw[al_ hp,hp,B5,if_pos h,da_ hp]
 ·rw[Ze (by omega),show l[k]?=none by simp;omega,B5,if_neg h]
theorem gK_ (size:Int)(b o n cap:Nat)(l:List Ex)(d:ByteArray)(w:World)(h:Bb w (some ⟨b,o,none⟩) n l)(hstr:BP l)(hn:n<=4194304)(hcap:n<=cap)(hd:d.size<=9223372036854775807):
  Calls prog 120 #[.int .i64 size,.slice (some ⟨b,o,none⟩) n cap,.string d] w fun e w'=>Gw w.heap.size e w' (AV size l d)∧Below w.heap.size w w':=by
 have ha:Hid (l.length=n):=h.len;rw[<-hE_]
 have hw:d.toList=[]↔d.size=0:=by
  constructor
  ·intro e
   have:d=ByteArray.mk #[]:=jV_ (by rw[e,Zu])
   rw[this];rfl
  ·intro e;rw[show d=ByteArray.mk #[] from ByteArray.ext (Array.eq_empty_of_size_eq_zero e),Zu]
 cases hj:Ao size l
 ·have hf:Bq size l d=none:=by simp[Bq,hj]
  rw[hf];go_enter func120,ntmps120
  go_wp2_with fail
  refine (aT_ size _ n cap l _ h hstr hn).mono ?_;rintro e w1 ⟨rfl,rfl⟩;rw[hj];go_wp2;go_returns;exact⟨rfl,Yg _ _⟩
 ·obtain⟨qa,hX,h5,hY⟩:=cu_ hj;rw[ha.out] at h5;by_cases hz:d.size=0
  ·have hQ:d.toList=[]:=hw.2 hz;have qb:d.toList.isEmpty=true:=by rw[hQ];rfl
   have hf:Bq size l d=none:=by simp[Bq,As,hz]
   rw[hf];go_enter func120,ntmps120
   go_wp2_with fail
   refine (aT_ size _ n cap l _ h hstr hn).mono ?_;rintro e w1 ⟨rfl,rfl⟩;rw[hj];go_wp2;go_returns;exact⟨rfl,Yg _ _⟩
  ·have hQ:¬ d.toList=[]:=fun e=>hz (hw.1 e);have qb:d.toList.isEmpty=false:=by cases hh:d.toList.isEmpty;rfl;exact absurd (List.isEmpty_iff.1 hh) hQ
   cases hm:(plainB d&&decide (d.size<=20))
   ·have hf:Bq size l d=none:=by
     have:As d=false:=by rw[dz_,hm];simp
     simp[Bq,this]
    rw[hf];go_enter func120,ntmps120
    go_wp2_with fail
    refine (aT_ size _ n cap l _ h hstr hn).mono ?_;rintro e w1 ⟨rfl,rfl⟩;rw[hj]
    go_wp2_with fail
    refine (a7_ d _ hd).mono ?_;rintro e w1 ⟨rfl,rfl⟩;rw[hm];go_wp2;go_returns;exact⟨rfl,Yg _ _⟩
   ·have h2:As d=true:=by rw[dz_,hm];simp;omega
    by_cases h60:n=60
    ·have hJ:((n:Int)==60)=true:=by simp[h60]
     have hf:Bq size l d=none:=by simp[Bq,ha.out,h60]
     rw[hf];clear h60;go_enter func120,ntmps120
     go_wp2_with fail
     refine (aT_ size _ n cap l _ h hstr hn).mono ?_;rintro e w1 ⟨rfl,rfl⟩;rw[hj]
     go_wp2_with fail
     refine (a7_ d _ hd).mono ?_;rintro e w1 ⟨rfl,rfl⟩;rw[hm];go_wp2;go_returns;exact⟨rfl,Yg _ _⟩
    ·have hJ:((n:Int)==60)=false:=ZV.2 (by omega);have h1:d.size<=20:=by simp at hm;exact hm.2
     have hf:Hid (Bq size l d=(B5 size d.size 0 1 l).map (fun x=>(l.take x.1++[⟨x.2,d⟩]++l.drop x.1,x.2))):=by show _=_;unfold Bq;rw[if_pos ⟨hj,h2,by rw[ha.out];exact h60⟩]
     have hO:=n3_ (size:=size) (L:=l) (next:=1);rw[ha.out] at hO;generalize hR:Bq size l d=R at *;clear hR;obtain⟨i0,hi,hr,hs,ht⟩:=info_parts E5;go_enter func120,ntmps120
     go_wp2_with fail
     refine (aT_ size _ n cap l _ h hstr hn).mono ?_;rintro e w1 ⟨rfl,rfl⟩;rw[hj]
     go_wp2_with fail
     refine (a7_ d _ hd).mono ?_;rintro e w1 ⟨rfl,rfl⟩;rw[hm]
     go_wp2_with fail
     refine (j4_ size _ n cap l _ h (by omega) qa hX hY).mono ?_;rintro e w2 ⟨⟨ag,ng,capg,rfl,Rg⟩,hS⟩;have hW:=Rg.sl.len;rw[hO] at hW;have h6:ng<=n+1:=by omega
     have h7:n+1<=ng:=by omega
     clear hW hO;have hG:=Rg.sl
     go_wp2_with fail
     go_loopw [10,11] (fun nx ix wr=>∃ (k:Nat),k<=ng∧ix=.int .i64 k∧(k<ng->nx=.int .i64 (glA size l k).2∧Hid (B5 size d.size 0 1 l=B5 size d.size k (glA size l k).2 (l.drop k)))∧(k=ng->(∃ y:Int,nx=.int .i64 y)∧Hid (B5 size d.size 0 1 l=none))∧Below w2.heap.size w2 wr) (fun _ ix _=>ng-(intOf ix).toNat)
     case atStart=>exact⟨0,Zg _,rfl,fun _=>⟨rfl,by show _=_;simp[glA]⟩,fun e=>by omega,Yg _ _⟩
     case round=>
      obtain⟨k,hk,rfl,hP,hl,hB⟩:=hrel;by_cases hlt:k<ng
      ·obtain⟨rfl,hI⟩:=hP hlt;clear hP hl;have hV:k<=l.length:=by rw[ha.out];omega
       obtain⟨bg,og,x,h0,hx,c0⟩:=nW_ (hG.below hB) hlt
       have hH:x=(match l[k]? with | some e=>e.a | none=>size+1)-(glA size l k).2:=by
        have:=qp_ (size:=size) (l:=l) k hV
        rw[this] at hx;exact (Zi hx).symm
       have hc:=pA_ (size:=size) (m:=d.size) (l:=l) k (by omega);rw[<-hH] at hc;obtain⟨q1,q2,q3⟩:=lC_ (l:=l) hX k hV hY;subst h0;have hv:=Aa hS hB;have hF:=hv.size;have qc:(k:Int)<ng:=by omega
       have qd:(0:Int)<=k:=by omega
       have hL:∀ u,Below w1.heap.size w1 u->Bb u (some ⟨b,o,none⟩) k (l.take k):=fun u hu=>(h.below hu).take (by omega);have hZ:∀ u,Below w1.heap.size w1 u->Bb u (if cap=k then some ⟨b,o,none⟩ else some ⟨b,o+k*2,none⟩) (n-k) (l.drop k):=fun u hu=>iM_ (h.below hu) k cap (by omega) hcap;by_cases hfit:(d.size:Int)<=x
       ·rw[if_pos hfit] at hc;have hA:Hid (R=some ([]++l.take k++[⟨(glA size l k).2,d⟩]++l.drop k,(glA size l k).2)):=by show _=_;rw[hf.out,hI.out,hc];simp
        clear hc hI hf q3 hx hH;generalize (glA size l k).2=nk at *;by_cases hkn:k=n
        ·subst hkn;have hT:∀ (u:World) (q:Option Addr),Bb u q 0 (l.drop k):=fun u q=>by rw[Ze (Zm ha.out)];exact⟨rfl,fun i x hx=>by simp at hx⟩
         go_wp2_with (first | (at_builtin;refine ag_ rfl (fun K hK=>ay_ _ _ 24 rfl w1.heap.size 42 i0 (.agg #[.int .i64 0,.string .empty]) 24 underlying24 hi hr hs ht rfl (by decide) aK_ aU_ _ 0 0 [] rfl (aw_ (Blk.new' _ _ _ _ (by simp)) (by omega)) (some ⟨b,o,none⟩) k cap (l.take k) rfl (hL _ (hv.alloc hF _)) (fun ad h=>(by cases h;rfl)) (fun h=>(by cases h)) k (Zq _) (by unfold maxLen;omega) (by omega) (by simp;omega) (fun a1 cap1 u1 hC hM=>hK _ _ ?_));have he:Below w1.heap.size w1 u1:=Yi (hv.alloc hF _) hM (by simp;omega) (fun k e=>by simp[Value.ownBlock] at e;omega)) | (at_builtin;refine ag_ rfl (fun K hK=>ay_ _ _ 24 rfl w1.heap.size 42 i0 (.agg #[.int .i64 0,.string .empty]) 24 underlying24 hi hr hs ht rfl (by decide) aK_ aU_ a1 k cap1 ([]++l.take k) rfl (hC.alloc _) _ 1 1 [(⟨nk,d⟩:Ex)] rfl (c9_ _ ⟨nk,d⟩ _ _ (by simp)) (fun ad h=>(by cases h;rfl)) (fun h=>(by cases h)) (k+1) rfl (by unfold maxLen;omega) (by omega) (by have:=he.size;simp;omega) (fun a2 cap2 u2 ho hN=>hK _ _ ?_));have hb:Below w1.heap.size w1 u2:=Yi (he.alloc he.size _) hN (by have:=he.size;simp;omega) (aG_ fun ad hg=>(hC.block ad hg).1)) | (at_builtin;refine ag_ rfl (fun K hK=>ay_ _ _ 24 rfl w1.heap.size 42 i0 (.agg #[.int .i64 0,.string .empty]) 24 underlying24 hi hr hs ht rfl (by decide) aK_ aU_ a2 (k+1) cap2 ([]++l.take k++[(⟨nk,d⟩:Ex)]) rfl ho (if cap=k then some ⟨b,o,none⟩ else some ⟨b,o+k*2,none⟩) 0 (cap-k) (l.drop k) rfl (hT _ _) (fun ad h=>(by first | (cases h;rfl) | (split at h<;>cases h<;>rfl))) (fun h=>(by first | cases h | (split at h<;>cases h))) (k+1) (by omega) (by unfold maxLen;omega) (by omega) hb.size (fun a3 cap3 u3 hE hy=>hK _ _ ?_));have hD:Below w1.heap.size w1 u3:=Yi hb hy hb.size (aG_ fun ad hg=>(ho.block ad hg).1)) | (at_builtin;refine ag_ rfl (fun K hK=>ay_ _ _ 24 rfl w1.heap.size 42 i0 (.agg #[.int .i64 0,.string .empty]) 24 underlying24 hi hr hs ht rfl (by decide) aK_ aU_ a2 (k+1) cap2 ([]++l.take k++[(⟨nk,d⟩:Ex)]) rfl ho (if cap=k then some ⟨b,o,none⟩ else some ⟨b,o+k*2,none⟩) (k-k) (cap-k) (l.drop k) rfl (by rw[Nat.sub_self];exact hT _ _) (fun ad h=>(by first | (cases h;rfl) | (split at h<;>cases h<;>rfl))) (fun h=>(by first | cases h | (split at h<;>cases h))) (k+1) (by omega) (by unfold maxLen;omega) (by omega) hb.size (fun a3 cap3 u3 hE hy=>hK _ _ ?_));have hD:Below w1.heap.size w1 u3:=Yi hb hy hb.size (aG_ fun ad hg=>(ho.block ad hg).1)))
         all_goals go_returns
         all_goals (rw[hA.out];exact⟨⟨a3,k+1,cap3,rfl,hE⟩,hD⟩)
        ·have h4:k<n:=by omega
         go_wp2_with (first | (at_builtin;refine ag_ rfl (fun K hK=>ay_ _ _ 24 rfl w1.heap.size 42 i0 (.agg #[.int .i64 0,.string .empty]) 24 underlying24 hi hr hs ht rfl (by decide) aK_ aU_ _ 0 0 [] rfl (aw_ (Blk.new' _ _ _ _ (by simp)) (by omega)) (some ⟨b,o,none⟩) k cap (l.take k) rfl (hL _ (hv.alloc hF _)) (fun ad h=>(by cases h;rfl)) (fun h=>(by cases h)) k (Zq _) (by unfold maxLen;omega) (by omega) (by simp;omega) (fun a1 cap1 u1 hC hM=>hK _ _ ?_));have he:Below w1.heap.size w1 u1:=Yi (hv.alloc hF _) hM (by simp;omega) (fun k e=>by simp[Value.ownBlock] at e;omega)) | (at_builtin;refine ag_ rfl (fun K hK=>ay_ _ _ 24 rfl w1.heap.size 42 i0 (.agg #[.int .i64 0,.string .empty]) 24 underlying24 hi hr hs ht rfl (by decide) aK_ aU_ a1 k cap1 ([]++l.take k) rfl (hC.alloc _) _ 1 1 [(⟨nk,d⟩:Ex)] rfl (c9_ _ ⟨nk,d⟩ _ _ (by simp)) (fun ad h=>(by cases h;rfl)) (fun h=>(by cases h)) (k+1) rfl (by unfold maxLen;omega) (by omega) (by have:=he.size;simp;omega) (fun a2 cap2 u2 ho hN=>hK _ _ ?_));have hb:Below w1.heap.size w1 u2:=Yi (he.alloc he.size _) hN (by have:=he.size;simp;omega) (aG_ fun ad hg=>(hC.block ad hg).1)) | (at_builtin;refine ag_ rfl (fun K hK=>ay_ _ _ 24 rfl w1.heap.size 42 i0 (.agg #[.int .i64 0,.string .empty]) 24 underlying24 hi hr hs ht rfl (by decide) aK_ aU_ a2 (k+1) cap2 ([]++l.take k++[(⟨nk,d⟩:Ex)]) rfl ho (some ⟨b,o+k*2,none⟩) (n-k) (cap-k) (l.drop k) rfl ((h.below hb).drop k) (fun ad h=>(by first | (cases h;rfl) | (split at h<;>cases h<;>rfl))) (fun h=>(by first | cases h | (split at h<;>cases h))) (n+1) (by omega) (by unfold maxLen;omega) (by omega) hb.size (fun a3 cap3 u3 hE hy=>hK _ _ ?_));have hD:Below w1.heap.size w1 u3:=Yi hb hy hb.size (aG_ fun ad hg=>(ho.block ad hg).1)))
         all_goals go_returns
         all_goals (rw[hA.out];exact⟨⟨a3,n+1,cap3,rfl,hE⟩,hD⟩)
       ·rw[if_neg hfit] at hc;clear hL hZ hx;by_cases hkn:k<n
        ·rw[if_pos (by rw[ha.out];exact hkn)] at hc;obtain⟨b',o',p,hU,hp,d0,d1⟩:=be_ (h.below hv) hkn;obtain⟨rfl,rfl⟩:b=b'∧o=o':=by simpa using hU
         have h3:Hid ((glA size l (k+1)).2=p.a+p.d.size):=by show _=_;rw[da_ hp]
         have hq:Hid (B5 size d.size 0 1 l=B5 size d.size (k+1) (glA size l (k+1)).2 (l.drop (k+1))):=by show _=_;rw[hI.out,hc]
         rw[al_ hp] at q3;simp only[xgo,Zf,ZU] at q3;have h8:p.d.size<=20:=by have:=q3.1.1.1;simp[As] at this;omega
         have qf:p.a<=400:=by have:=q3.1.2;have:=bl_ q3.1.1.1;omega
         have h9:1<=p.a:=by have:=q3.1.1.2;omega
         clear hp hU q3 hc hI hH;generalize (glA size l k).2=nk at *;have qe:(k:Int)<n:=by omega
         go_wp2_with fail
         go_quiet (fail)
         go_wp2;go_roundw
         case rel=>exact⟨k+1,by omega,by go_num,fun _=>⟨by rw[h3.out],hq⟩,fun e=>by omega,Aa hB (AJ _ _)⟩
         case measure=>simp[intOf];omega
        ·rw[if_neg (by rw[ha.out];exact hkn)] at hc;have hq:Hid (B5 size d.size 0 1 l=none):=by show _=_;rw[hI.out,hc]
         clear q3 hc hI hH;generalize (glA size l k).2=nk at *;go_wp2;go_roundw
         case rel=>exact⟨k+1,by omega,by go_num,fun e=>by omega,fun _=>⟨⟨_,rfl⟩,hq⟩,hB⟩
         case measure=>simp[intOf];omega
      ·obtain⟨⟨y,rfl⟩,hI⟩:=hl (by omega);obtain rfl:k=ng:=by omega
       clear hP hl;go_wp2;go_returns;rw[hf.out,hI.out];exact⟨rfl,Aa hS hB⟩
end
section
open Go Go.RowKit Go.BigFrame Tryz
variable{file s vol:ByteArray}{ps:List Pt}{vs:List Vo}{i k:Nat}
def Bo:Option Nat->Int
 |none=>-1
 |some i=>i
theorem np_ {x:Vo}(h:vs[k]?=some x):(volI (vs.drop k) s).map (·+k)=if (x.nm.toList==s.toList)=true then some k else (volI (vs.drop (k+1)) s).map (·+(k+1)):=by
 unfold volI;rw[al_ h,List.findIdx?_cons];split
 ·simp
 ·rw[Option.map_map];congr 1;funext i;simp;omega
theorem pC_ (h:volI vs s=some i):i<vs.length:=by
 unfold volI at h;rw[ZA] at h;exact h.1
theorem pY_ {vs:List It}(h:itI vs s=some i):i<vs.length:=by
 unfold itI at h;rw[ZA] at h;exact h.1
theorem ak_ (B:Nat)(size next:Int)(ea:Option Addr)(en ec:Nat)(va:Option Addr)(vn vc:Nat)(ra:Option Addr)(rn rc:Nat)(la:Option Addr)(ln lc:Nat)(vs:List Vo)(s:ByteArray)(w:World)(h2:Ba B w va vn vs)(z3:vn<=4194304):
  Calls prog 118 #[.agg #[.int .i64 size,.int .i64 next,.slice ea en ec,.slice va vn vc,.slice ra rn rc,.slice la ln lc],.string s] w fun e w'=>e=.returned (.int .i64 (Bo (volI vs s)))∧Below w.heap.size w w':=by
 have hc:Hid (vs.length=vn):=h2.len;have hR:Hid (volI vs s=(volI (vs.drop 0) s).map (·+0)):=by show _=_;simp
 generalize volI vs s=R at *;have C:=(Blk.new w #[.int .i64 size,.int .i64 next,.slice ea en ec,.slice va vn vc,.slice ra rn rc,.slice la ln lc] 28);have hb:Below w.heap.size w (w.alloc (.cells #[.int .i64 size,.int .i64 next,.slice ea en ec,.slice va vn vc,.slice ra rn rc,.slice la ln lc] 28)):=by go_grown
 go_enter func118,ntmps118
 go_wp2_with fail
 generalize w.alloc (.cells #[.int .i64 size,.int .i64 next,.slice ea en ec,.slice va vn vc,.slice ra rn rc,.slice la ln lc] 28)=W0 at *
 go_loopw [5] (fun ix wr=>∃ (k:Nat),k<=vn∧ix=.int .i64 k∧Hid (R=(volI (vs.drop k) s).map (·+k))∧Below W0.heap.size W0 wr) (fun ix _=>vn-(intOf ix).toNat)
 case atStart=>exact⟨0,Zg _,rfl,hR,Yg _ _⟩
 case round=>
  clear hR;obtain⟨k,hk,rfl,hI,hB⟩:=hrel;have d3:=(C.below hB).cell 3;replace hb:=Aa hb hB;simp only[lgA,lgB,lgC] at d3;by_cases hlt:k<vn
  ·obtain⟨b,o,x,qa,qn,qc,rfl,hx,e0,e1,e2,e3,hP,_,_⟩:=b5_ (h2.below hb) hlt;have ha:Hid (R=if (x.nm.toList==s.toList)=true then some k else (volI (vs.drop (k+1)) s).map (·+(k+1))):=by show _=_;rw[hI.out,np_ hx]
   have hf:(k:Int)<vn:=by omega
   have hg:(0:Int)<=k:=by omega
   clear hx hI
   cases hs:(x.nm.toList==s.toList)
   ·rw[hs] at ha;simp only[Zj,if_false] at ha;have he:¬ x.nm.toList=s.toList:=by simpa using hs
    go_wp2;go_roundw
    case rel=>exact⟨k+1,by omega,by go_num,ha,hB⟩
    case measure=>simp[intOf];omega
   ·rw[hs] at ha;simp only[if_true] at ha;have he:x.nm.toList=s.toList:=by simpa using hs
    go_wp2;go_returns;exact⟨by rw[ha.out];rfl,hb⟩
  ·obtain rfl:k=vn:=by omega
   go_wp2;go_returns;exact⟨by rw[hI.out,Ze (Zm hc.out)];rfl,hb⟩
theorem cf_ (B:Nat)(id:Int)(nm:ByteArray)(fx:Bool)(pa:Option Addr)(pn pc:Nat)(its:List It)(s:ByteArray)(w:World)(h2:Bf B w pa pn its)(z3:pn<=4194304):
  Calls prog 125 #[.agg #[.int .i64 id,.string nm,.bool fx,.slice pa pn pc],.string s] w fun e w'=>e=.returned (.int .i64 (Bo (itI its s)))∧Below w.heap.size w w':=by
 have hc:Hid (its.length=pn):=h2.len;have hR:Hid (itI its s=(itI (its.drop 0) s).map (·+0)):=by show _=_;simp
 generalize itI its s=R at *;have C:=(Blk.new w #[.int .i64 id,.string nm,.bool fx,.slice pa pn pc] 38);have hb:Below w.heap.size w (w.alloc (.cells #[.int .i64 id,.string nm,.bool fx,.slice pa pn pc] 38)):=by go_grown
 go_enter func125,ntmps125
 go_wp2_with fail
 generalize w.alloc (.cells #[.int .i64 id,.string nm,.bool fx,.slice pa pn pc] 38)=W0 at *
 go_loopw [5] (fun ix wr=>∃ (k:Nat),k<=pn∧ix=.int .i64 k∧Hid (R=(itI (its.drop k) s).map (·+k))∧Below W0.heap.size W0 wr) (fun ix _=>pn-(intOf ix).toNat)
 case atStart=>exact⟨0,Zg _,rfl,hR,Yg _ _⟩
 case round=>
  clear hR;obtain⟨k,hk,rfl,hI,hB⟩:=hrel;have d3:=(C.below hB).cell 3;replace hb:=Aa hb hB;simp only[lgA,lgB,lgC] at d3;by_cases hlt:k<pn
  ·obtain⟨b,o,x,qa,qn,qc,rfl,hx,e0,e1,hP,_,_,_⟩:=bO_ (h2.below hb) hlt;have ha:Hid (R=if (x.nm.toList==s.toList)=true then some k else (itI (its.drop (k+1)) s).map (·+(k+1))):=by show _=_;rw[hI.out,ku_ hx]
   have hf:(k:Int)<pn:=by omega
   have hg:(0:Int)<=k:=by omega
   clear hx hI
   cases hs:(x.nm.toList==s.toList)
   ·rw[hs] at ha;simp only[Zj,if_false] at ha;have he:¬ x.nm.toList=s.toList:=by simpa using hs
    go_wp2;go_roundw
    case rel=>exact⟨k+1,by omega,by go_num,ha,hB⟩
    case measure=>simp[intOf];omega
   ·rw[hs] at ha;simp only[if_true] at ha;have he:x.nm.toList=s.toList:=by simpa using hs
    go_wp2;go_returns;exact⟨by rw[ha.out];rfl,hb⟩
  ·obtain rfl:k=pn:=by omega
   go_wp2;go_returns;exact⟨by rw[hI.out,Ze (Zm hc.out)];rfl,hb⟩
theorem aH_ (B:Nat)(v:Value)(p:Po)(vol file:ByteArray)(w:World)(h:AF B w v p)(hd:AB p):
  Calls prog 119 #[v,.string vol,.string file] w fun e w'=>EO B e w' (Ar p.vs vol file)∧Below w.heap.size w w':=by
 obtain⟨ea,en,ec,va,vn,vc,ra,rn,rc,la,ln,lc,rfl,⟨h1,k1⟩,⟨h2,k2⟩,⟨h3,k3⟩,h4,k4⟩:=h;obtain⟨z1,z2,z3,z4,z5,z6,z7,z8⟩:=hd;rw[h2.len] at z3;obtain⟨size,next,ex,vs,rf,lt⟩:=p;simp only at h1 h2 h3 h4 z2 z4 z6 z8 ⊢;have hR:Hid (Ar vs vol file=(volI vs vol).bind fun i=>vs[i]?.bind fun v=>(itI v.its file).bind fun k=>v.its[k]?.map (·.ps)):=rfl;generalize Ar vs vol file=R at *;have C:=(Blk.new w #[.int .i64 size,.int .i64 next,.slice ea en ec,.slice va vn vc,.slice ra rn rc,.slice la ln lc] 28);have hf:Below w.heap.size w (w.alloc (.cells #[.int .i64 size,.int .i64 next,.slice ea en ec,.slice va vn vc,.slice ra rn rc,.slice la ln lc] 28)):=by go_grown
 go_enter func119,ntmps119
 go_wp2_with fail
 generalize w.alloc (.cells #[.int .i64 size,.int .i64 next,.slice ea en ec,.slice va vn vc,.slice ra rn rc,.slice la ln lc] 28)=W0 at *;refine (ak_ B size next ea en ec va vn vc ra rn rc la ln lc vs vol _ (h2.below hf) z3).mono ?_;rintro e w1 ⟨rfl,ha⟩;have C1:=C.below ha;replace ha:=Aa hf ha;clear C hf;have d3:=C1.cell 3;simp only[lgA,lgB,lgC] at d3
 cases he:volI vs vol with
 |none=>
  rw[he] at hR;replace hR:Hid (R=none):=hR;rw[show Bo none=-1 from rfl];clear he;go_wp2;go_returns;exact⟨by rw[hR.out];rfl,ha⟩
 |some i=>
  rw[he] at hR;rw[show Bo (some i)=(i:Int) from rfl];have hg:=pC_ he;rw[h2.len] at hg;clear he;obtain⟨b,o,x,qa,qn,qc,rfl,hx,e0,e1,e2,e3,hP,hH,hn⟩:=b5_ (h2.below ha) hg;replace hR:Hid (R=(itI x.its file).bind fun k=>x.its[k]?.map (·.ps)):=by show _=_;rw[hR.out,YO,hx,YO]
  obtain⟨m1,m2,m3⟩:=z4 x (Zc hx);have hj:Hid (x.its.length=qn):=hP.len;rw[hj.out] at m2;have hq:(i:Int)<vn:=by omega
  have hr:(0:Int)<=i:=by omega
  clear hx
  go_wp2_with fail
  refine (cf_ B x.id x.nm x.fx qa qn qc x.its file _ hP m2).mono ?_;rintro e w2 ⟨rfl,hb⟩;have C2:=C1.below hb;have hl:=hP.below hb;have f3:=Ab hb e3;replace hb:=Aa ha hb;clear C1 ha d3 e0 e1 e2 e3 hP;have d3:=C2.cell 3;simp only[lgA,lgB,lgC] at d3
  cases hc:itI x.its file with
  |none=>
   rw[hc] at hR;replace hR:Hid (R=none):=hR;rw[show Bo none=-1 from rfl];clear hc;go_wp2;go_returns;exact⟨by rw[hR.out];rfl,hb⟩
  |some j=>
   rw[hc] at hR;rw[show Bo (some j)=(j:Int) from rfl];have hh:=pY_ hc;rw[hj.out] at hh;clear hc;obtain⟨b',o',y,pa,pn,pc,rfl,hy,g0,g1,hm,hk,_,_⟩:=bO_ hl hh;replace hR:Hid (R=some y.ps):=by show _=_;rw[hR.out,YO,hy];rfl
   obtain⟨_,m5⟩:=m3 y (Zc hy);have ho:(j:Int)<qn:=by omega
   have hp:(0:Int)<=j:=by omega
   clear hy;go_wp2;go_returns;exact⟨by rw[hR.out];exact⟨pa,pn,pc,rfl,hm,hk,m5⟩,hb⟩
end
section
open Go Go.RowKit
variable{x:It}{l:List It}
def DI (x:It)(l:List It)(k:Nat):List It×Bool:=(l.take k).foldl (Bh x) ([],false)
theorem nq_ {k:Nat}{y:It}(h:l[k]?=some y):DI x l (k+1)=Bh x (DI x l k) y:=by
 unfold DI;rw[ZK,h];simp
theorem om_ {n:Nat}(h:l.length=n):DH x (DI x l n)=A9 x l:=by
 unfold DI A9;rw[Zk (Zm h)]
def CO (l:List Pt):Prop:=∀ p∈l,0<=p.a
theorem mI_ {l:List Pt}{p:Pt}(h:CO l)(hp:0<=p.a):CO (AI l p):=by
 unfold AI;split
 ·intro q hq;simp at hq;subst hq;exact hp
 ·rename_i q hq;have hm:q∈l:=List.mem_of_getLast? hq;split
  ·intro z hz;rcases Zs.1 hz with hz | hz
   ·exact h z (List.dropLast_subset l hz)
   ·simp at hz;subst hz;exact h q hm
  ·intro z hz;rcases Zs.1 hz with hz | hz
   ·exact h z hz
   ·simp at hz;subst hz;exact hp
theorem cg_:∀ {m l:List Pt},CO l->CO m->CO (Ak l m)
 |[],l,h,_=>h
 |p::r,l,h,hm=>cg_ (m:=r) (mI_ h (hm p (by simp))) (fun q hq=>hm q (by simp[hq]))
theorem gk_ {fr to:Int}:∀ {l:List Pt} {st:Int},CO l->CO (slp fr to st l)
 |[],_,_=>by intro q hq;simp[slp] at hq
 |p::r,st,h=>by
  have hr:=gk_ (fr:=fr) (to:=to) (l:=r) (st:=st+p.n) (fun q hq=>h q (by simp[hq]));unfold slp;split
  ·intro q hq;rcases Zn.1 hq with rfl | hq
   ·unfold Be;split
    ·exact YB _
    ·exact h p (by simp)
   ·exact hr q hq
  ·exact hr
theorem dD_:CO []:=fun p hp=>by cases hp
theorem fS_ {l m:List Pt}{at':Int}(h:CO l)(hm:CO m):CO (AH l at' m):=by
 unfold AH;refine cg_ (cg_ ?_ hm) (cg_ dD_ (gk_ h));split
 ·exact mI_ (cg_ dD_ (gk_ h)) (YB _)
 ·exact cg_ dD_ (gk_ h)
theorem on_ {l:List Pt}(h:Ac l=true):CO l:=fun p hp=>by
 have:=(ae_ h).2.1 p hp
 unfold Ag at this;split at this
 ·rename_i h0;simp at h0;omega
 ·simp at this;omega
end
section
open Go Go.RowKit Go.BigFrame Tryz
variable{α:Type}{s:ByteArray}{B b cap i n sz:Nat}{t:TypeId}{v:Value}{w w':World}{l:List α}{cs:α->List Value}
def Bg (v:Value):Prop:=∃ s n ea en ec va vn vc ra rn rc la ln lc,v=.agg #[.int .i64 s,.int .i64 n,.slice ea en ec,.slice va vn vc,.slice ra rn rc,.slice la ln lc]
theorem bm_ (s n:Int)(ea:Option Addr)(en ec:Nat)(va:Option Addr)(vn vc:Nat)(ra:Option Addr)(rn rc:Nat)(la:Option Addr)(ln lc:Nat):Bg (.agg #[.int .i64 s,.int .i64 n,.slice ea en ec,.slice va vn vc,.slice ra rn rc,.slice la ln lc]):=⟨s,n,ea,en,ec,va,vn,vc,ra,rn,rc,la,ln,lc,rfl⟩
def FrV (w w':World):Prop:=∀ k c t,Blk w k c t->t≠38->Blk w' k c t
theorem FrV.of (h:Below w.heap.size w w'):FrV w w':=fun _ _ _ hb _=>hb.below h
theorem pZ_ {l:List It}(h:itI l s=some i):i<l.length:=by
 unfold itI at h;obtain⟨h1,_⟩:=ZA.1 h;exact h1
theorem oo_ (h:AE cs sz w (some ⟨b,0,none⟩) n l)(j cap:Nat)(hj:j<=n)(hc:n<=cap):AE cs sz w (if cap=j then some ⟨b,0,none⟩ else some ⟨b,0+j*sz,none⟩) (n-j) (l.drop j):=by
 by_cases hcj:cap=j
 ·rw[if_pos hcj];have h0:n-j=0:=by omega
  rw[h0,Ze (by rw[h.len];omega)];exact⟨rfl,fun i x hx=>by simp at hx⟩
 ·rw[if_neg hcj];exact h.drop j
theorem fs_ (B:Nat)(hB0:0<B)(v:Value)(p:Po)(o:Opr)(w:World)(h:Al B w v p)(hBw:B<=w.heap.size)(hd:AB p)(hnx:1<=p.next∧p.next<=1000000000)(hk:o.k≠1)(hno:volI p.vs o.vol=none):
  Calls prog 73 #[v,.agg #[.int .i64 o.k,.string o.vol,.string o.file,.string o.to,.string o.into,.int .i64 o.at',.int .i64 o.fr,.int .i64 o.ln,.string o.data]] w fun e w'=>(∃ v' c,e=.returned (.tuple #[v',.int .i64 c])∧Bg v'∧c=(Ay p o).1∧(c=0->Al B w' v' (Ay p o).2))∧Below B w w'∧FrV w w':=by
 obtain⟨ea,en,ec,va,vn,vc,ra,rn,rc,la,ln,lc,rows,rfl,h1,⟨h2,h3⟩,h4,h5,h6⟩:=h;obtain⟨z1,z2,z3,z4,z5,z6,z7,z8⟩:=hd;have hV:Ba B w va vn p.vs:=h3.rows.vs h2;rw[hV.len] at z3;obtain⟨size,next,ex,vs,rf,lt⟩:=p;obtain⟨k,vol,file,tt,into,at0,fr,ln0,data⟩:=o;simp only at h1 h2 h3 h4 h5 hV z4 z3 hnx hk ⊢;have _:=hB0;have _:=hnx;have _:=hBw;have hf:vs.length=vn:=hV.len;have hh:rows.length=vn:=h2.sl.len;simp only at hno;have hS:Hid (Ay ⟨size,next,ex,vs,rf,lt⟩ ⟨k,vol,file,tt,into,at0,fr,ln0,data⟩=(3,⟨size,next,ex,vs,rf,lt⟩)):=by show _=_;simp[Ay,hno,hk]
 generalize Ay ⟨size,next,ex,vs,rf,lt⟩ ⟨k,vol,file,tt,into,at0,fr,ln0,data⟩=R at *;have hg:(k==1)=false:=ZV.2 hk;go_enter func73,ntmps73
 go_wp2_with fail
 refine (ak_ B size next ea en ec va vn vc ra rn rc la ln lc vs vol _ (hV.below (by go_grown)) z3).mono ?_;rintro e w1 ⟨rfl,hb⟩;obtain⟨C,O,D,ha,hj⟩:=bx3 hb;clear hb;obtain⟨c0,c1,c2,c3,c4,c5⟩:=C.six';have o0:w1.cell? ⟨w.heap.size+1,0,none⟩=some (.int .i64 k):=O.cell 0;have o1:w1.cell? ⟨w.heap.size+1,1,none⟩=some (.string vol):=O.cell 1;have o2:w1.cell? ⟨w.heap.size+1,2,none⟩=some (.string file):=O.cell 2;have o3:w1.cell? ⟨w.heap.size+1,3,none⟩=some (.string tt):=O.cell 3;obtain⟨x0,x1,x2,x3,x4,x5⟩:=D.six';obtain⟨f0,f1,f2,f3,f4,f5⟩:=fz6 D;rw[hno];simp only[Bo];go_wp2;obtain⟨W8,hc,W0,he⟩:=AU D (.int .i64 size) (.int .i64 next) (.slice ea en ec) (.slice va vn vc) (.slice ra rn rc) (.slice la ln lc);have B8:=ha.grown he ha.size (fun j e=>by cases e;omega);rw[<-hc];clear hc;refine YW (ad_ rfl _ W8 (w.heap.size+2) _ _ _ _ _ rfl W0 underlying28 rfl (by kernel_rfl) rfl) rfl ?_;exact⟨⟨_,3,rfl,bm_ _ _ _ _ _ _ _ _ _ _ _ _ _ _,by rw[hS.out],fun h=>absurd h (by omega)⟩,B8.mono hBw,FrV.of B8⟩
theorem eZ_ (B:Nat)(hB0:0<B)(v:Value)(p:Po)(o:Opr)(w:World)(h:Al B w v p)(hBw:B<=w.heap.size)(hd:AB p)(hnx:1<=p.next∧p.next<=1000000000)(hk:o.k=1)(i:Nat)(hso:volI p.vs o.vol=some i):
  Calls prog 73 #[v,.agg #[.int .i64 o.k,.string o.vol,.string o.file,.string o.to,.string o.into,.int .i64 o.at',.int .i64 o.fr,.int .i64 o.ln,.string o.data]] w fun e w'=>(∃ v' c,e=.returned (.tuple #[v',.int .i64 c])∧Bg v'∧c=(Ay p o).1∧(c=0->Al B w' v' (Ay p o).2))∧Below B w w'∧FrV w w':=by
 obtain⟨ea,en,ec,va,vn,vc,ra,rn,rc,la,ln,lc,rows,rfl,h1,⟨h2,h3⟩,h4,h5,h6⟩:=h;obtain⟨z1,z2,z3,z4,z5,z6,z7,z8⟩:=hd;have hV:Ba B w va vn p.vs:=h3.rows.vs h2;rw[hV.len] at z3;obtain⟨size,next,ex,vs,rf,lt⟩:=p;obtain⟨k,vol,file,tt,into,at0,fr,ln0,data⟩:=o;simp only at h1 h2 h3 h4 h5 hV z4 z3 hnx hk ⊢;have _:=hB0;have _:=hnx;have _:=hBw;have hf:vs.length=vn:=hV.len;have hh:rows.length=vn:=h2.sl.len;subst hk;simp only at hso;have hi:=ap_ hso;have hx:vs[i]?=some vs[i]:=by simp[hi]
 have hg:(0:Int)<=(i:Int):=by omega
 have hS:Hid (Ay ⟨size,next,ex,vs,rf,lt⟩ ⟨1,vol,file,tt,into,at0,fr,ln0,data⟩=(4,⟨size,next,ex,vs,rf,lt⟩)):=by show _=_;simp[Ay,hso,hx]
 generalize Ay ⟨size,next,ex,vs,rf,lt⟩ ⟨1,vol,file,tt,into,at0,fr,ln0,data⟩=R at *;go_enter func73,ntmps73
 go_wp2_with fail
 refine (ak_ B size next ea en ec va vn vc ra rn rc la ln lc vs vol _ (hV.below (by go_grown)) z3).mono ?_;rintro e w1 ⟨rfl,hb⟩;obtain⟨C,O,D,ha,hj⟩:=bx3 hb;clear hb;obtain⟨c0,c1,c2,c3,c4,c5⟩:=C.six';have o0:w1.cell? ⟨w.heap.size+1,0,none⟩=some (.int .i64 1):=O.cell 0;have o1:w1.cell? ⟨w.heap.size+1,1,none⟩=some (.string vol):=O.cell 1;have o2:w1.cell? ⟨w.heap.size+1,2,none⟩=some (.string file):=O.cell 2;have o3:w1.cell? ⟨w.heap.size+1,3,none⟩=some (.string tt):=O.cell 3;obtain⟨x0,x1,x2,x3,x4,x5⟩:=D.six';obtain⟨f0,f1,f2,f3,f4,f5⟩:=fz6 D;rw[hso];simp only[Bo];go_wp2;obtain⟨W8,hc,W0,he⟩:=AU D (.int .i64 size) (.int .i64 next) (.slice ea en ec) (.slice va vn vc) (.slice ra rn rc) (.slice la ln lc);have B8:=ha.grown he ha.size (fun j e=>by cases e;omega);rw[<-hc];clear hc;refine YW (ad_ rfl _ W8 (w.heap.size+2) _ _ _ _ _ rfl W0 underlying28 rfl (by kernel_rfl) rfl) rfl ?_;exact⟨⟨_,4,rfl,bm_ _ _ _ _ _ _ _ _ _ _ _ _ _ _,by rw[hS.out],fun h=>absurd h (by omega)⟩,B8.mono hBw,FrV.of B8⟩
end
end Go.Proofs.YtdmeabghpchckaaGreatDoor
