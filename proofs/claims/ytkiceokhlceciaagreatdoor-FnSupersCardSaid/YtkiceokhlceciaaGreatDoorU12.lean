/- Appends at the program's own types, in few words. -/
import Derived.Test.YtkiceokhlceciaaGreatDoorU05
import Derived.Test.YtkiceokhlceciaaGreatDoorU06
import Derived.Test.YtkiceokhlceciaaGreatDoorU10
import Derived.Test.YtkiceokhlceciaaGreatDoorU11
set_option maxHeartbeats 20000000
set_option maxRecDepth 100000
namespace Go.Proofs.YtkiceokhlceciaaGreatDoor
section
open Go Go.RowKit Go.BigFrame Tryz
theorem KK:(prog.info? 122).map (fun i=>(i.zero,i.size,i.bytes))=some (some (.agg #[.string .empty,.slice none 0 0]),2,40):=by kernel_rfl
theorem My:(prog.info? 80).map (fun i=>(i.zero,i.size,i.bytes))=some (some (.agg #[.int .i64 0,.string .empty,.bool false,.slice none 0 0]),4,56):=by kernel_rfl
theorem po_ {α:Type}{cs:α->List Value}{size:Nat}{P:Program}{o:Oper}{a:Act}{w:World}{K:Act->World->Prop}{Q:Exit->Act->World->Prop}
  (s x:Operand)(t:TypeId)(ho:o.op=.call {callee:=.builtin .append,args:=#[s,x],argTypes:=#[t,t]})
  (B:Nat)(e:TypeId)(i:TypeInfo)(z:Value)(bytes:Nat)(ht:P.underlying t=some (.slice e))(hi:P.info? e=some i)(hz:i.zero=some z)(hsize:i.size=size)(hby:i.bytes=bytes)(hzs:z.cells.size=size)(hpos:0<size)
  (hsz:∀ y,(cs y).length=size)(hone:∀ (l:List α),∀ u∈l.flatMap cs,u.oneCell'=true)
  (da:Option Addr)(dn dcap:Nat)(ld:List α)(hs:a.eval s=.slice da dn dcap)(hd:Ad cs size e w B da dn dcap ld)
  (sa:Option Addr)(sn scap:Nat)(ls:List α)(hx:a.eval x=.slice sa sn scap)(hsrc:AX cs size w sa sn ls)(hspot:∀ ad,sa=some ad->ad.spot=none)(hnone:sa=none->scap=0)
  (tot:Nat)(htot:dn+sn=tot)(h63:tot<=maxLen)(hbytes:tot*bytes<=140737488355328)(hbase:B<=w.heap.size)
  (h:∀ a' cap' w',Ad cs size e w' B a' tot cap' (ld++ls)->w.grownBy w' (Value.ownBlock (.slice da dn dcap))->(da≠none->a'≠none)->K (a.put o.dst (.slice a' tot cap')) w'):o.wp P a w K Q:=by
 subst htot;have hf:=hd.row hsz;have hh:(ld++ls).length=dn+sn:=by rw[ZE,hd.sl.len,hsrc.len]
 cases sa with
 |none=>
  have h0:sn=0:=by
   cases ls with
   |nil=>rw[<-hsrc.len];rfl
   |cons y r=>obtain⟨b,o',hb,_⟩:=hsrc.cell 0 y rfl;cases hb
  obtain rfl:=h0;obtain rfl:=hnone rfl;have hm:ls=[]:=Zt hsrc.len;subst hm;have hj:=run_append_owned_none (P:=P) w B t o.type e i size ht hi (.slice da dn dcap) dn (ld.flatMap cs) hf;unfold Oper.wp;simp[execOp,ho,resolve,invoke,builtin,hs,hx,hj,Result.andThen];exact h da dcap w (by simpa using hd) (Yh _ _) (fun h=>h)
 |some ad=>
  obtain⟨b,off,spot⟩:=ad
  have:=hspot _ rfl
  simp only at this;subst this;refine wp_append_own w s x t ho B e i z size bytes ht hi hz hsize hby hzs hpos (.slice da dn dcap) dn (ld.flatMap cs) hs hf ⟨b,off,none⟩ sn scap (ls.flatMap cs) hx (by rw[aY_ hsz,hsrc.len]) (AX.src hsz hsrc) (hone ls) h63 hbytes hbase ?_;intro v' w' ha hg hc;rw[<-ZQ] at ha;obtain⟨a',cap',rfl,he⟩:=bz_ hsz hh ha;refine h a' cap' w' he hg (fun hl hk=>?_);subst hk
  have hz:dn+sn=0∧cap'=0:=by
   rcases he.own with⟨_,h1,h2⟩ | ⟨b,e,_⟩
   ·exact⟨h1,h2⟩
   ·cases e
  rw[hz.1,hz.2] at hc
  have:=(hc.1 rfl).1
  injection this with e1;exact hl e1
end
section
open Go Go.RowKit Go.BigFrame Tryz
variable{o:Oper}{a:Act}{w:World}{K:Act->World->Prop}{Q:Exit->Act->World->Prop}
theorem g4_ (s x:Operand)(ho:o.op=.call {callee:=.builtin .append,args:=#[s,x],argTypes:=#[78,78]})
  (B:Nat)(da:Option Addr)(dn dcap:Nat)(ld:List IR)(hs:a.eval s=.slice da dn dcap)(hd:Ad irs 2 122 w B da dn dcap ld)
  (sa:Option Addr)(sn scap:Nat)(ls:List IR)(hx:a.eval x=.slice sa sn scap)(hsrc:AX irs 2 w sa sn ls)(hspot:∀ ad,sa=some ad->ad.spot=none)(hnone:sa=none->scap=0)
  (tot:Nat)(htot:dn+sn=tot)(h63:tot<=9000000)(hbase:B<=w.heap.size)
  (h:∀ a' cap' w',Ad irs 2 122 w' B a' tot cap' (ld++ls)->w.grownBy w' (Value.ownBlock (.slice da dn dcap))->K (a.put o.dst (.slice a' tot cap')) w'):o.wp prog a w K Q:=by
 obtain⟨i0,hi,ha,hb,hc⟩:=info_parts KK;exact ay_ s x _ ho B _ i0 _ 40 underlying78 hi ha hb hc rfl (by decide) aI_ eP_ da dn dcap ld hs hd sa sn scap ls hx hsrc hspot hnone tot htot (by unfold maxLen;omega) (by omega) hbase h
theorem dC_ (s x:Operand)(ho:o.op=.call {callee:=.builtin .append,args:=#[s,x],argTypes:=#[25,25]})
  (B:Nat)(da:Option Addr)(dn dcap:Nat)(ld:List VR)(hs:a.eval s=.slice da dn dcap)(hd:Ad vrs 4 80 w B da dn dcap ld)
  (sa:Option Addr)(sn scap:Nat)(ls:List VR)(hx:a.eval x=.slice sa sn scap)(hsrc:AX vrs 4 w sa sn ls)(hspot:∀ ad,sa=some ad->ad.spot=none)(hnone:sa=none->scap=0)
  (tot:Nat)(htot:dn+sn=tot)(h63:tot<=9000000)(hbase:B<=w.heap.size)
  (h:∀ a' cap' w',Ad vrs 4 80 w' B a' tot cap' (ld++ls)->w.grownBy w' (Value.ownBlock (.slice da dn dcap))->K (a.put o.dst (.slice a' tot cap')) w'):o.wp prog a w K Q:=by
 obtain⟨i0,hi,ha,hb,hc⟩:=info_parts My;exact ay_ s x _ ho B _ i0 _ 56 underlying25 hi ha hb hc rfl (by decide) a2_ pm_ da dn dcap ld hs hd sa sn scap ls hx hsrc hspot hnone tot htot (by unfold maxLen;omega) (by omega) hbase h
theorem mF_ (s x:Operand)(ho:o.op=.call {callee:=.builtin .append,args:=#[s,x],argTypes:=#[120,120]})
  (B:Nat)(da:Option Addr)(dn dcap:Nat)(ld:List Pt)(hs:a.eval s=.slice da dn dcap)(hd:Ad Pt.cs 3 124 w B da dn dcap ld)
  (sa:Option Addr)(sn scap:Nat)(ls:List Pt)(hx:a.eval x=.slice sa sn scap)(hsrc:BI w sa sn ls)(hspot:∀ ad,sa=some ad->ad.spot=none)(hnone:sa=none->scap=0)
  (tot:Nat)(htot:dn+sn=tot)(h63:tot<=9000000)(hbase:B<=w.heap.size)
  (h:∀ a' cap' w',Ad Pt.cs 3 124 w' B a' tot cap' (ld++ls)->w.grownBy w' (Value.ownBlock (.slice da dn dcap))->K (a.put o.dst (.slice a' tot cap')) w'):o.wp prog a w K Q:=by
 obtain⟨i0,hi,ha,hb,hc⟩:=info_parts KL;exact ay_ s x _ ho B _ i0 _ 24 underlying120 hi ha hb hc rfl (by decide) bF_ cI_ da dn dcap ld hs hd sa sn scap ls hx hsrc hspot hnone tot htot (by unfold maxLen;omega) (by omega) hbase h
theorem mG_ (s x:Operand)(ho:o.op=.call {callee:=.builtin .append,args:=#[s,x],argTypes:=#[24,24]})
  (B:Nat)(da:Option Addr)(dn dcap:Nat)(ld:List Ex)(hs:a.eval s=.slice da dn dcap)(hd:Ad Ex.cs 2 77 w B da dn dcap ld)
  (sa:Option Addr)(sn scap:Nat)(ls:List Ex)(hx:a.eval x=.slice sa sn scap)(hsrc:BZ w sa sn ls)(hspot:∀ ad,sa=some ad->ad.spot=none)(hnone:sa=none->scap=0)
  (tot:Nat)(htot:dn+sn=tot)(h63:tot<=9000000)(hbase:B<=w.heap.size)
  (h:∀ a' cap' w',Ad Ex.cs 2 77 w' B a' tot cap' (ld++ls)->w.grownBy w' (Value.ownBlock (.slice da dn dcap))->(da≠none->a'≠none)->K (a.put o.dst (.slice a' tot cap')) w'):o.wp prog a w K Q:=by
 obtain⟨i0,hi,ha,hb,hc⟩:=info_parts KJ;exact po_ s x _ ho B _ i0 _ 24 underlying24 hi ha hb hc rfl (by decide) aK_ aU_ da dn dcap ld hs hd sa sn scap ls hx hsrc hspot hnone tot htot (by unfold maxLen;omega) (by omega) hbase h
end
section
open Go Go.RowKit Go.BigFrame Tryz
theorem b1_ {o:Oper}{a:Act}{w:World}{K:Act->World->Prop}{Q:Exit->Act->World->Prop}(s x:Operand)(ho:o.op=.call {callee:=.builtin .append,args:=#[s,x],argTypes:=#[78,78]})
  (B:Nat)(da:Option Addr)(dn dcap:Nat)(ld:List IR)(hs:a.eval s=.slice da dn dcap)(hd:Ad irs 2 122 w B da dn dcap ld)
  (b off:Nat)(r:IR)(hx:a.eval x=.slice (some ⟨b,off,none⟩) 1 1)(hsrc:AX irs 2 w (some ⟨b,off,none⟩) 1 [r])(h63:dn<=9000000)(hbase:B<=w.heap.size)
  (h:∀ a' cap' w',Ad irs 2 122 w' B a' (dn+1) cap' (ld++[r])->w.grownBy w' (Value.ownBlock (.slice da dn dcap))->(∀ ad',a'=some ad'->(∃ ad,da=some ad∧ad.block=ad'.block)∨w.heap.size<=ad'.block)->K (a.put o.dst (.slice a' (dn+1) cap')) w'):o.wp prog a w K Q:=by
 obtain⟨i0,hi,ha,hb,hc⟩:=info_parts KK;exact ph_ s x _ ho B _ i0 _ 40 underlying78 hi ha hb hc rfl (by decide) aI_ eP_ da dn dcap ld hs hd b off [r] hx hsrc (by unfold maxLen;omega) (by omega) hbase h
theorem jo_ {α:Type}{cs:α->List Value}{sz:Nat}{w:World}{b:Nat}{c:Array Value}{t:TypeId}(x:α)(h:Blk w b c t)(hc:c.toList=cs x):AX cs sz w (some ⟨b,0,none⟩) 1 [x]:=by
 refine⟨rfl,fun i y hy=>⟨b,0,rfl,fun j v hv=>?_⟩⟩;have hi:i=0:=by have:=(Zb.1 hy).1;simp at this;exact this
 subst hi;simp at hy;subst hy;rw[h.cell];simp only[Nat.zero_mul,Zq];rw[<-hc] at hv;simpa using hv
theorem cd_ (w:World)(r:IR)(t:TypeId)(b:Nat)(hb:b=w.heap.size):AX irs 2 (w.alloc (.cells #[.string r.nm,.slice r.pa r.pn r.pc] t)) (some ⟨b,0,none⟩) 1 [r]:=jo_ r (Blk.new' w _ t b hb) rfl
theorem fQ_ (w:World)(r:VR)(t:TypeId)(b:Nat)(hb:b=w.heap.size):AX vrs 4 (w.alloc (.cells #[.int .i64 r.id,.string r.nm,.bool r.fx,.slice r.pa r.pn r.pc] t)) (some ⟨b,0,none⟩) 1 [r]:=jo_ r (Blk.new' w _ t b hb) rfl
theorem MF {w:World}{b:Nat}{c0 c1 c2 c3:Value}{t:TypeId}(h:Blk w b #[c0,c1,c2,c3] t)(v0 v1 v2 v3:Value):
  Blk ((((w.setCell ⟨b,0,none⟩ v0).setCell ⟨b,1,none⟩ v1).setCell ⟨b,2,none⟩ v2).setCell ⟨b,3,none⟩ v3) b #[v0,v1,v2,v3] t∧w.grownBy ((((w.setCell ⟨b,0,none⟩ v0).setCell ⟨b,1,none⟩ v1).setCell ⟨b,2,none⟩ v2).setCell ⟨b,3,none⟩ v3) (some b):=
 ⟨by simpa using (((h.set 0 v0).set 1 v1).set 2 v2).set 3 v3,af_ (af_ (af_ (CS w b 0 v0) 1 v1) 2 v2) 3 v3⟩
theorem Ba {w:World}{b:Nat}{c0 c1 c2 c3 c4 c5:Value}{t:TypeId}(h:Blk w b #[c0,c1,c2,c3,c4,c5] t)(v0 v1 v2 v3 v4 v5:Value):
  ∃ W,W=((((((w.setCell ⟨b,0,none⟩ v0).setCell ⟨b,1,none⟩ v1).setCell ⟨b,2,none⟩ v2).setCell ⟨b,3,none⟩ v3).setCell ⟨b,4,none⟩ v4).setCell ⟨b,5,none⟩ v5)∧Blk W b #[v0,v1,v2,v3,v4,v5] t∧w.grownBy W (some b):=
 ⟨_,rfl,by simpa using (((((h.set 0 v0).set 1 v1).set 2 v2).set 3 v3).set 4 v4).set 5 v5,af_ (af_ (af_ (af_ (af_ (CS w b 0 v0) 1 v1) 2 v2) 3 v3) 4 v4) 5 v5⟩
theorem Blk.four {w:World}{b:Nat}{c0 c1 c2 c3:Value}{t:TypeId}(h:Blk w b #[c0,c1,c2,c3] t):w.cell? ⟨b,0,none⟩=some c0∧w.cell? ⟨b,1,none⟩=some c1∧w.cell? ⟨b,2,none⟩=some c2∧w.cell? ⟨b,3,none⟩=some c3:=⟨h.cell 0,h.cell 1,h.cell 2,h.cell 3⟩
theorem Blk.six' {w:World}{b:Nat}{c0 c1 c2 c3 c4 c5:Value}{t:TypeId}(h:Blk w b #[c0,c1,c2,c3,c4,c5] t):w.cell? ⟨b,0,none⟩=some c0∧w.cell? ⟨b,1,none⟩=some c1∧w.cell? ⟨b,2,none⟩=some c2∧w.cell? ⟨b,3,none⟩=some c3∧w.cell? ⟨b,4,none⟩=some c4∧w.cell? ⟨b,5,none⟩=some c5:=⟨h.cell 0,h.cell 1,h.cell 2,h.cell 3,h.cell 4,h.cell 5⟩
end
section
open Go Go.RowKit Go.BigFrame Tryz
variable{α:Type}{a:Act}{K:Act->World->Prop}{Q:Exit->Act->World->Prop}{B b j k n:Nat}{o:Oper}{P:Program}{t:TypeId}{x:Value}{u w:World}{S:World->Prop}{l:List α}{cs:α->List Value}
theorem eq_ (B0:Nat)(hB0:0<B0)(id:Int)(nm:ByteArray)(fx:Bool)(its:List It)(qa:Option Addr)(qn qc:Nat)(w:World)(h:Bw B0 w qa qn its)(hn:qn<=4194304)(hps:∀ x∈its,x.ps.length<=4194304):
  Calls prog 103 #[.agg #[.int .i64 id,.string nm,.bool fx,.slice qa qn qc]] w fun e w'=>(∃ pa pc rows,e=.returned (.agg #[.int .i64 id,.string nm,.bool fx,.slice pa qn pc])∧Ad irs 2 122 w' w.heap.size pa qn pc rows∧A3 w.heap.size w' rows its)∧Below w.heap.size w w':=by
 have hl:Hid (its.length=qn):=h.len;go_enter func103,ntmps103
 go_wp2_with fail
 go_loopw [4] (fun ix wr=>∃ (k:Nat) (a2:Option Addr) (cap2:Nat) (rows:List IR),k<=qn∧ix=.int .i64 k∧Blk wr w.heap.size #[.int .i64 id,.string nm,.bool fx,.slice qa qn qc] 80∧Blk wr (w.heap.size+1) #[.int .i64 0,.string ⟨#[]⟩,.bool false,.slice none 0 0] 80∧Blk wr (w.heap.size+2) #[.int .i64 id,.string nm,.bool fx,.slice a2 k cap2] 80∧Ad irs 2 122 wr (w.heap.size+3) a2 k cap2 rows∧A3 (w.heap.size+3) wr rows (its.take k)∧w.heap.size+3<=wr.heap.size∧Below w.heap.size w wr) (fun ix _=>qn-(intOf ix).toNat)
 case atStart=>exact⟨0,none,0,[],Zg _,rfl,((Blk.new w _ _).alloc _).alloc _,(Blk.new' _ _ _ _ (by simp)).alloc _,Blk.new' _ _ _ _ (by simp),aB_,by simpa using A3.nil _ _,by simp,by go_grown⟩
 case round=>
  obtain⟨k,a2,cap2,rows,hk,rfl,K1,K2,K3,R2,T2,hD,hB⟩:=hrel;have z3:wr.cell? ⟨w.heap.size,3,none⟩=some (.slice qa qn qc):=K1.cell 3;have y3:wr.cell? ⟨w.heap.size+2,3,none⟩=some (.slice a2 k cap2):=K3.cell 3;by_cases hlt:k<qn
  ·obtain⟨b,o,x,pa,pn,pc,rfl,hx,d0,d1,hP,hh,_,_⟩:=bO_ (h.below hB) hlt;have hA:pn<=4194304:=by have:=hps x (Zc hx);rw[hP.len] at this;exact this
   have hy:(k:Int)<qn:=by omega
   have hz:(0:Int)<=k:=by omega
   have hs:∀ ad,pa=some ad->ad.spot=none:=(hh.2.2 hB0).2;have ht:pa=none->pc=0:=(hh.2.2 hB0).1
   have hq:b<w.heap.size:=by
    obtain⟨b',o',_,_,_,_,hp,_,f0,_⟩:=bO_ h hlt;obtain⟨rfl,rfl⟩:b=b'∧o=o':=by simpa using hp
    exact Yk w _ f0
   have ho:b<w.heap.size+3:=by omega
   have hw:¬ w.heap.size+1+1=b:=by omega
   have hF:w.heap.size<w.heap.size+3:=by omega
   have hu:Hid (its.take (k+1)=its.take k++[x]):=bx_ hx;clear hx;have za:=fun ob=>Al (w:=wr) ob z3;have ya:=fun ob=>Al (w:=wr) ob y3;have da:=fun ob=>Al (w:=wr) ob d0;have de:=fun ob=>Al (w:=wr) ob d1
   go_wp2_with fail
   have hv:(fun u=>u.cell? ⟨w.heap.size,3,none⟩=some (.slice (some ⟨b,o,none⟩) qn qc)∧u.cell? ⟨w.heap.size+1+1,3,none⟩=some (.slice a2 k cap2)∧u.cell? ⟨b,o+k*2,none⟩=some (.string x.nm)∧u.cell? ⟨b,o+k*2+1,none⟩=some (.slice pa pn pc)) wr.drew:=⟨z3,y3,d0,d1⟩;refine ar_ (S:=(fun u=>u.cell? ⟨w.heap.size,3,none⟩=some (.slice (some ⟨b,o,none⟩) qn qc)∧u.cell? ⟨w.heap.size+1+1,3,none⟩=some (.slice a2 k cap2)∧u.cell? ⟨b,o+k*2,none⟩=some (.string x.nm)∧u.cell? ⟨b,o+k*2+1,none⟩=some (.slice pa pn pc))) 20 (by kernel_rfl) (by kernel_rfl) ?_;refine tk 0 ?_;refine tk 1 ?_;refine tk 2 ?_;refine tk 3 ?_;refine tk 4 ?_;refine tk 5 ?_;refine tk 6 ?_;refine tk 7 ?_;refine tk 9 ?_;refine tk 10 ?_;refine tk 11 ?_;refine tk 12 ?_;refine tk 13 ?_;refine tk 14 ?_;refine Aq (i:=8) (by kernel_rfl) rfl (fun K hK=>?_);go_simp;refine hK.out _ _ ⟨za _,ya _,da _,de _⟩ (fun hHeld=>?_);clear hK K
   try simp only[Act.put,lsA,lsB,lsC]
   refine Aq (i:=15) (by kernel_rfl) rfl (fun K hK=>?_);refine aJ_ rfl (mF_ _ _ rfl wr.heap.size _ 0 0 [] rfl (aw_ (Blk.new' _ _ _ _ (by simp)) (by simp)) pa pn pc x.ps rfl (hP.below (by go_grown)) hs ht pn (Zq _) (by omega) (by simp) ?_);intro a3 cap3 w3 R3 hr;have hb:Below wr.heap.size wr w3:=Yi (by go_grown) hr (by simp) (fun j e=>by simp[Value.ownBlock] at e;omega);have hC:=hb.size;refine hK.out _ _ ⟨Ab hb z3,Ab hb y3,Ab hb d0,Ab hb d1⟩ (fun hHeld=>?_);clear hK K
   try simp only[Act.put,lsA,lsB,lsC]
   refine tk 16 ?_;refine Aq (i:=17) (by kernel_rfl) rfl (fun K hK=>?_);go_simp;refine hK.out _ _ ⟨Al _ (Ab hb z3),Al _ (Ab hb y3),Al _ (Ab hb d0),Al _ (Ab hb d1)⟩ (fun hHeld=>?_);clear hK K
   try simp only[Act.put,lsA,lsB,lsC]
   refine Aq (i:=18) (by kernel_rfl) rfl (fun K hK=>?_);have ha:Below wr.heap.size wr (w3.alloc (.cells #[.string x.nm,.slice a3 pn cap3] 122)):=Aa hb (by go_grown);refine aJ_ rfl (g4_ _ _ rfl (w.heap.size+3) a2 k cap2 rows rfl (R2.below ha) _ 1 1 [(⟨x.nm,a3,pn,cap3⟩:IR)] rfl (cd_ _ (⟨x.nm,a3,pn,cap3⟩:IR) _ _ (by simp)) (fun ad h=>(by cases h;rfl)) (fun h=>(by cases h)) (k+1) rfl (by omega) (by have:=ha.size;omega) ?_);intro a4 cap4 w4 R4 he;have hc:∀ j,Value.ownBlock (.slice a2 k cap2)=some j->w.heap.size+3<=j:=aG_ fun ad hf=>(R2.block ad hf).1;have L1:=(K1.below ha).offB he hc (by omega);have L3:=(K3.below ha).offB he hc (by omega);have L2:=(K2.below ha).offB he hc (by omega);have e0:=he.cell (a:=⟨b,o+k*2,none⟩) (Ab ha d0) (at_ (fun ad hf=>(R2.block ad hf).1) ho);have e1:=he.cell (a:=⟨b,o+k*2+1,none⟩) (Ab ha d1) (at_ (fun ad hf=>(R2.block ad hf).1) ho);refine hK.out _ _ ⟨L1.cell 3,L3.cell 3,e0,e1⟩ (fun hHeld=>?_);clear hK K
   try simp only[Act.put,lsA,lsB,lsC]
   refine tk 19 ?_;refine wpAnyH_done (by kernel_rfl) ?_ _;refine lastL rfl ?_;have y4:w4.cell? ⟨w.heap.size+1+1,3,none⟩=some (.slice a2 k cap2):=L3.cell 3;have f4:w4.frozen? ⟨w.heap.size+1+1,3,none⟩=false:=L3.frozen 3;go_wp2;go_roundw
   case rel=>
    have hj:=CS w4 (w.heap.size+1+1) 3 (.slice a4 (k+1) cap4);have hE:=hB.size;refine⟨k+1,a4,cap4,rows++[⟨x.nm,a3,pn,cap3⟩],by omega,by go_num,L1.other _ _ (by simp only[ne_eq];omega),L2.other _ _ (by simp only[ne_eq];omega),by simpa using L3.set 3 (.slice a4 (k+1) cap4),R4.ty hj (aa_ L3) (by decide),?_,?_,?_⟩
    ·rw[hu.out];have hm:=(((R3.alloc (.cells #[.string x.nm,.slice a3 pn cap3] 122)).ty he (R2.below ha).rowTy (by decide)).mono (show w.heap.size+3<=wr.heap.size by omega));rw[ZM] at hm;exact (((T2.below ha).ty he (R2.below ha).rowTy (by decide)).snoc ⟨rfl,hm⟩).ty hj (aa_ L3) (by decide)
    ·have h4:=L3.lt
     have:=hj.size
     omega
    ·exact Below.setCell (Yi (Aa hB ha) he (by have:=ha.size;omega) (fun j e=>by have:=hc j e;omega)) (by simp only;omega) _
   case measure=>simp[intOf];omega
  ·obtain rfl:k=qn:=by omega
   obtain⟨y0,y1,y2,_⟩:=K3.four;obtain⟨x0,x1,x2,x3⟩:=K2.four;have f0:=K2.frozen 0;have f1:=K2.frozen 1;have f2:=K2.frozen 2;have f3:=K2.frozen 3;obtain⟨W0,hg⟩:=MF K2 (.int .i64 id) (.string nm) (.bool fx) (.slice a2 k cap2);have R0:=R2.ty hg (aa_ K2) (by decide);have T0:=T2.ty hg (aa_ K2) (by decide);have B1:=hB.grown hg hB.size (fun j e=>by cases e;omega);go_wp2;generalize (((wr.setCell ⟨w.heap.size+1,0,none⟩ (.int .i64 id)).setCell ⟨w.heap.size+1,1,none⟩ (.string nm)).setCell ⟨w.heap.size+1,2,none⟩ (.bool fx)).setCell ⟨w.heap.size+1,3,none⟩ (.slice a2 k cap2)=W8 at *;refine YW (results_cell_row rfl _ W8 (w.heap.size+1) _ _ _ _ rfl W0 underlying80 rfl (by kernel_rfl)) rfl ?_;rw[Zk (Zm hl.out)] at T0;exact⟨⟨a2,cap2,rows,rfl,R0.mono (by omega),T0.mono (by omega)⟩,B1⟩
theorem eQ_ {size:Nat}
  (s x:Operand)(t:TypeId)(ho:o.op=.call {callee:=.builtin .append,args:=#[s,x],argTypes:=#[t,t]})
  (B:Nat)(e:TypeId)(i:TypeInfo)(z:Value)(bytes:Nat)(ht:P.underlying t=some (.slice e))(hi:P.info? e=some i)(hz:i.zero=some z)(hsize:i.size=size)(hby:i.bytes=bytes)(hzs:z.cells.size=size)(hpos:0<size)
  (hsz:∀ y,(cs y).length=size)(hone:∀ (l:List α),∀ u∈l.flatMap cs,u.oneCell'=true)
  (b:Nat)(hs:a.eval s=.slice (some ⟨b,0,none⟩) 0 0)(hb:Blk w b #[] e)(hBb:B<=b)
  (sa:Option Addr)(sn scap:Nat)(ls:List α)(hx:a.eval x=.slice sa sn scap)(hsrc:AX cs size w sa sn ls)(hspot:∀ ad,sa=some ad->ad.spot=none)(hnone:sa=none->scap=0)
  (h63:sn<=maxLen)(hbytes:sn*bytes<=140737488355328)(hbase:B<=w.heap.size)
  (h:∀ a' cap' w',Ad cs size e w' B a' sn cap' ls->Below w.heap.size w w'->a'≠none->(0<cap'->∀ ad,a'=some ad->w.heap.size<=ad.block)->K (a.put o.dst (.slice a' sn cap')) w'):o.wp P a w K Q:=by
 have hd:Ad cs size e w B (some ⟨b,0,none⟩) 0 0 ([]:List α):=aw_ hb hBb;have hf:=hd.row hsz;have he:sn=0->ls=[]:=fun h0=>Zt (by rw[hsrc.len];exact h0)
 cases sa with
 |none=>
  have h0:sn=0:=by
   cases ls with
   |nil=>rw[<-hsrc.len];rfl
   |cons y r=>obtain⟨b,o',hb,_⟩:=hsrc.cell 0 y rfl;cases hb
  obtain rfl:=he h0;obtain rfl:=h0;obtain rfl:=hnone rfl;have hc:=run_append_owned_none (P:=P) w B t o.type e i size ht hi (.slice (some ⟨b,0,none⟩) 0 0) 0 _ hf;unfold Oper.wp;simp[execOp,ho,resolve,invoke,builtin,hs,hx,hc,Result.andThen];exact h _ 0 w hd (Yg _ _) (by simp) (fun h=>absurd h (by omega))
 |some ad=>
  obtain⟨sb,off,spot⟩:=ad
  have:=hspot _ rfl
  simp only at this;subst this;have hl:(ls.flatMap cs).length=sn*size:=by rw[aY_ hsz,hsrc.len]
  by_cases hm:0<sn
  ·obtain⟨v',w',hr,ha,hg,hq⟩:=run_append_own (P:=P) w B t o.type e i z size bytes ht hi hz hsize hby hzs hpos (.slice (some ⟨b,0,none⟩) 0 0) 0 [] (by simpa using hf) ⟨sb,off,none⟩ sn scap (ls.flatMap cs) hl (AX.src hsz hsrc) (hone ls) (by omega) (by rw[Zq];exact hbytes) hbase;subst hsize;subst hby;have hn:=run_append_grow (P:=P) w t o.type e i z ht hi hz ⟨b,0,none⟩ 0 0 [] (by simp) (fun j v hv=>by simp at hv) ⟨sb,off,none⟩ sn scap (ls.flatMap cs) hl (AX.src hsz hsrc) (by omega) (by simp only[maxLen] at h63;omega) (growslice_fits (by omega) (by rw[Zq];exact hbytes));rw[hr] at hn;rw[ZM,Zq] at ha;obtain⟨a',cap',rfl,hh⟩:=bz_ hsz hsrc.len ha;injection hn with e1 e2;injection e1 with e3 e4 e5;have hp:Below w.heap.size w w':=by rw[e2];exact ((Yg _ _).drew).alloc (Zd _) _
   unfold Oper.wp;simp[execOp,ho,resolve,invoke,builtin,hs,hx,hr,Result.andThen];refine h a' cap' w' hh hp (by rw[e3];simp) (fun _ ad hk=>?_);rw[e3] at hk
   cases hk
   exact Zd _
  ·obtain rfl:sn=0:=by omega
   obtain rfl:=he rfl;subst hsize;have hc:=run_append_room_cells (P:=P) (w:=w) t o.type e i ht hi b 0 0 0 ⟨sb,off,none⟩ 0 scap [] (by simp) (fun j u hu=>by simp at hu) (fun u hu=>by simp at hu) (by omega) (fun j hj=>by simp at hj) (fun j hj=>by simp at hj);unfold Oper.wp;simp[execOp,ho,resolve,invoke,builtin,hs,hx,hc,Result.andThen];exact h _ 0 w hd (Yg _ _) (by simp) (fun h=>absurd h (by omega))
def Bf (a:Act)(x9 x12 x13 x16 x17 x20 x21 x3:Value):Act:=((((((((a.put (some 9) x9).put (some 12) x12).put (some 13) x13).put (some 16) x16).put (some 17) x17).put (some 20) x20).put (some 21) x21).put (some 3) x3)
theorem pW_ (a:Act)(x9 x12 x13 x16 x17 x20 x21 x3 v:Value):(Bf a x9 x12 x13 x16 x17 x20 x21 x3).put (some 9) v=Bf a v x12 x13 x16 x17 x20 x21 x3:=by
 unfold Bf;rw[ax_ (show (3:Nat)≠9 by decide),ax_ (show (21:Nat)≠9 by decide),ax_ (show (20:Nat)≠9 by decide),ax_ (show (17:Nat)≠9 by decide),ax_ (show (16:Nat)≠9 by decide),ax_ (show (13:Nat)≠9 by decide),ax_ (show (12:Nat)≠9 by decide),ce_]
theorem pr_ (h:a.tmps.size=41)(x9 x12 x13 x16 x17 x20 x21 x3:Value):(Bf a x9 x12 x13 x16 x17 x20 x21 x3).eval (.tmp 9)=x9:=by
 unfold Bf;rw[aj_ (show (3:Nat)≠9 by decide),aj_ (show (21:Nat)≠9 by decide),aj_ (show (20:Nat)≠9 by decide),aj_ (show (17:Nat)≠9 by decide),aj_ (show (16:Nat)≠9 by decide),aj_ (show (13:Nat)≠9 by decide),aj_ (show (12:Nat)≠9 by decide),cp_ (by first | omega | (simp only[dd_];omega))]
theorem ps_ (a:Act)(x9 x12 x13 x16 x17 x20 x21 x3 v:Value):(Bf a x9 x12 x13 x16 x17 x20 x21 x3).put (some 12) v=Bf a x9 v x13 x16 x17 x20 x21 x3:=by
 unfold Bf;rw[ax_ (show (3:Nat)≠12 by decide),ax_ (show (21:Nat)≠12 by decide),ax_ (show (20:Nat)≠12 by decide),ax_ (show (17:Nat)≠12 by decide),ax_ (show (16:Nat)≠12 by decide),ax_ (show (13:Nat)≠12 by decide),ce_]
theorem od_ (h:a.tmps.size=41)(x9 x12 x13 x16 x17 x20 x21 x3:Value):(Bf a x9 x12 x13 x16 x17 x20 x21 x3).eval (.tmp 12)=x12:=by
 unfold Bf;rw[aj_ (show (3:Nat)≠12 by decide),aj_ (show (21:Nat)≠12 by decide),aj_ (show (20:Nat)≠12 by decide),aj_ (show (17:Nat)≠12 by decide),aj_ (show (16:Nat)≠12 by decide),aj_ (show (13:Nat)≠12 by decide),cp_ (by first | omega | (simp only[dd_];omega))]
theorem pt_ (a:Act)(x9 x12 x13 x16 x17 x20 x21 x3 v:Value):(Bf a x9 x12 x13 x16 x17 x20 x21 x3).put (some 13) v=Bf a x9 x12 v x16 x17 x20 x21 x3:=by
 unfold Bf;rw[ax_ (show (3:Nat)≠13 by decide),ax_ (show (21:Nat)≠13 by decide),ax_ (show (20:Nat)≠13 by decide),ax_ (show (17:Nat)≠13 by decide),ax_ (show (16:Nat)≠13 by decide),ce_]
theorem oe_ (h:a.tmps.size=41)(x9 x12 x13 x16 x17 x20 x21 x3:Value):(Bf a x9 x12 x13 x16 x17 x20 x21 x3).eval (.tmp 13)=x13:=by
 unfold Bf;rw[aj_ (show (3:Nat)≠13 by decide),aj_ (show (21:Nat)≠13 by decide),aj_ (show (20:Nat)≠13 by decide),aj_ (show (17:Nat)≠13 by decide),aj_ (show (16:Nat)≠13 by decide),cp_ (by first | omega | (simp only[dd_];omega))]
theorem pu_ (a:Act)(x9 x12 x13 x16 x17 x20 x21 x3 v:Value):(Bf a x9 x12 x13 x16 x17 x20 x21 x3).put (some 16) v=Bf a x9 x12 x13 v x17 x20 x21 x3:=by
 unfold Bf;rw[ax_ (show (3:Nat)≠16 by decide),ax_ (show (21:Nat)≠16 by decide),ax_ (show (20:Nat)≠16 by decide),ax_ (show (17:Nat)≠16 by decide),ce_]
theorem of_ (h:a.tmps.size=41)(x9 x12 x13 x16 x17 x20 x21 x3:Value):(Bf a x9 x12 x13 x16 x17 x20 x21 x3).eval (.tmp 16)=x16:=by
 unfold Bf;rw[aj_ (show (3:Nat)≠16 by decide),aj_ (show (21:Nat)≠16 by decide),aj_ (show (20:Nat)≠16 by decide),aj_ (show (17:Nat)≠16 by decide),cp_ (by first | omega | (simp only[dd_];omega))]
theorem pv_ (a:Act)(x9 x12 x13 x16 x17 x20 x21 x3 v:Value):(Bf a x9 x12 x13 x16 x17 x20 x21 x3).put (some 17) v=Bf a x9 x12 x13 x16 v x20 x21 x3:=by
 unfold Bf;rw[ax_ (show (3:Nat)≠17 by decide),ax_ (show (21:Nat)≠17 by decide),ax_ (show (20:Nat)≠17 by decide),ce_]
theorem og_ (h:a.tmps.size=41)(x9 x12 x13 x16 x17 x20 x21 x3:Value):(Bf a x9 x12 x13 x16 x17 x20 x21 x3).eval (.tmp 17)=x17:=by
 unfold Bf;rw[aj_ (show (3:Nat)≠17 by decide),aj_ (show (21:Nat)≠17 by decide),aj_ (show (20:Nat)≠17 by decide),cp_ (by first | omega | (simp only[dd_];omega))]
theorem pw_ (a:Act)(x9 x12 x13 x16 x17 x20 x21 x3 v:Value):(Bf a x9 x12 x13 x16 x17 x20 x21 x3).put (some 20) v=Bf a x9 x12 x13 x16 x17 v x21 x3:=by
 unfold Bf;rw[ax_ (show (3:Nat)≠20 by decide),ax_ (show (21:Nat)≠20 by decide),ce_]
theorem oh_ (h:a.tmps.size=41)(x9 x12 x13 x16 x17 x20 x21 x3:Value):(Bf a x9 x12 x13 x16 x17 x20 x21 x3).eval (.tmp 20)=x20:=by
 unfold Bf;rw[aj_ (show (3:Nat)≠20 by decide),aj_ (show (21:Nat)≠20 by decide),cp_ (by first | omega | (simp only[dd_];omega))]
theorem px_ (a:Act)(x9 x12 x13 x16 x17 x20 x21 x3 v:Value):(Bf a x9 x12 x13 x16 x17 x20 x21 x3).put (some 21) v=Bf a x9 x12 x13 x16 x17 x20 v x3:=by
 unfold Bf;rw[ax_ (show (3:Nat)≠21 by decide),ce_]
theorem pX_ (a:Act)(x9 x12 x13 x16 x17 x20 x21 x3 v:Value):(Bf a x9 x12 x13 x16 x17 x20 x21 x3).put (some 3) v=Bf a x9 x12 x13 x16 x17 x20 x21 v:=by
 unfold Bf;rw[ce_]
theorem py_ (a:Act)(x9 x12 x13 x16 x17 x20 x21 x3:Value):(Bf a x9 x12 x13 x16 x17 x20 x21 x3).eval (.tmp 6)=a.eval (.tmp 6):=by
 unfold Bf;rw[aj_ (show (3:Nat)≠6 by decide),aj_ (show (21:Nat)≠6 by decide),aj_ (show (20:Nat)≠6 by decide),aj_ (show (17:Nat)≠6 by decide),aj_ (show (16:Nat)≠6 by decide),aj_ (show (13:Nat)≠6 by decide),aj_ (show (12:Nat)≠6 by decide),aj_ (show (9:Nat)≠6 by decide)]
theorem pz_ (a:Act)(x9 x12 x13 x16 x17 x20 x21 x3:Value):(Bf a x9 x12 x13 x16 x17 x20 x21 x3).eval (.tmp 8)=a.eval (.tmp 8):=by
 unfold Bf;rw[aj_ (show (3:Nat)≠8 by decide),aj_ (show (21:Nat)≠8 by decide),aj_ (show (20:Nat)≠8 by decide),aj_ (show (17:Nat)≠8 by decide),aj_ (show (16:Nat)≠8 by decide),aj_ (show (13:Nat)≠8 by decide),aj_ (show (12:Nat)≠8 by decide),aj_ (show (9:Nat)≠8 by decide)]
theorem oi_ (a:Act)(x9 x12 x13 x16 x17 x20 x21 x3:Value):(Bf a x9 x12 x13 x16 x17 x20 x21 x3).eval (.tmp 11)=a.eval (.tmp 11):=by
 unfold Bf;rw[aj_ (show (3:Nat)≠11 by decide),aj_ (show (21:Nat)≠11 by decide),aj_ (show (20:Nat)≠11 by decide),aj_ (show (17:Nat)≠11 by decide),aj_ (show (16:Nat)≠11 by decide),aj_ (show (13:Nat)≠11 by decide),aj_ (show (12:Nat)≠11 by decide),aj_ (show (9:Nat)≠11 by decide)]
theorem oj_ (a:Act)(x9 x12 x13 x16 x17 x20 x21 x3:Value):(Bf a x9 x12 x13 x16 x17 x20 x21 x3).eval (.tmp 15)=a.eval (.tmp 15):=by
 unfold Bf;rw[aj_ (show (3:Nat)≠15 by decide),aj_ (show (21:Nat)≠15 by decide),aj_ (show (20:Nat)≠15 by decide),aj_ (show (17:Nat)≠15 by decide),aj_ (show (16:Nat)≠15 by decide),aj_ (show (13:Nat)≠15 by decide),aj_ (show (12:Nat)≠15 by decide),aj_ (show (9:Nat)≠15 by decide)]
theorem ok_ (a:Act)(x9 x12 x13 x16 x17 x20 x21 x3:Value):(Bf a x9 x12 x13 x16 x17 x20 x21 x3).eval (.tmp 19)=a.eval (.tmp 19):=by
 unfold Bf;rw[aj_ (show (3:Nat)≠19 by decide),aj_ (show (21:Nat)≠19 by decide),aj_ (show (20:Nat)≠19 by decide),aj_ (show (17:Nat)≠19 by decide),aj_ (show (16:Nat)≠19 by decide),aj_ (show (13:Nat)≠19 by decide),aj_ (show (12:Nat)≠19 by decide),aj_ (show (9:Nat)≠19 by decide)]
def MP (x y:Value):Prop:=∀ a n cap a' n' cap',x=.slice a n cap->y=.slice a' n' cap'->∀ p q,a=some p->a'=some q->0<cap->0<cap'->p.block≠q.block
def Bd (l:List Pt)(at':Int)(m:List Pt):List Pt:=
 At (At (if Aj l<at' then BE (At [] (slp 0 (min at' (Aj l)) 0 l)) ⟨0,0,at'-Aj l⟩ else At [] (slp 0 (min at' (Aj l)) 0 l)) m) (At [] (slp (min (Aj l) (at'+Aj m)) (Aj l) 0 l))
theorem cM_ (a:Option Addr)(n cap:Nat)(l:List Pt)(at':Int)(a':Option Addr)(n' cap':Nat)(m:List Pt)(w:World)(h:BI w a n l)(h':BI w a' n' m)(hok:Ae l=true)(hok':Ae m=true)(h0:0<=at')(h1:at'<=100):
  Calls prog 107 #[.slice a n cap,.int .i64 at',.slice a' n' cap'] w fun e w'=>(∃ a1 n1 cap1,e=.returned (.slice a1 n1 cap1)∧n1<=1000∧Ad Pt.cs 3 124 w' w.heap.size a1 n1 cap1 (Bd l at' m))∧Below w.heap.size w w':=by
 have hh:n<=16:=by rw[<-h.len];exact (ae_ hok).1
 have hu:n'<=16:=by rw[<-h'.len];exact (ae_ hok').1
 have hs:Hid (∀ k,0<=Aj (l.take k)∧Aj (l.take k)<=100):=i8_ hok;have hn:Hid (∀ k,0<=Aj (m.take k)∧Aj (m.take k)<=100):=i8_ hok';have ht:=(ae_ hok).2.2;have hB:=az_ l (ae_ hok).2.1;have ho:=(ae_ hok').2.2;have hy:=az_ m (ae_ hok').2.1;have hj:=hq_ hok;by_cases hgt:Aj l<at'
 ·have hl:Hid (Bd l at' m=At (At (BE (At [] (slp 0 (Aj l) 0 l)) ⟨0,0,at'-Aj l⟩) m) (At [] (slp (Aj l) (Aj l) 0 l))):=by
   show _=_;simp only[Bd,hgt,if_true];rw[Int.min_eq_right (by omega),Int.min_eq_left (by omega)]
  have hw:¬ at'+Aj m<Aj l:=by omega
  go_enter func107,ntmps107
  go_wp2_with fail
  refine (aZ_ a n cap l _ h (by omega) hs.out).mono ?_;rintro e w1 ⟨rfl,rfl⟩
  go_wp2_with fail
  refine (ba_ a n cap l 0 (Aj l) _ h hh hj (by omega) (by omega) (by omega) (by omega)).mono ?_;rintro e w2 ⟨⟨a2,n2,cap2,rfl,hA,R2⟩,hv⟩
  go_wp2_with fail
  refine (bg_ a2 n2 cap2 _ ⟨0,0,at'-Aj l⟩ _ R2.sl (by omega) R2.arg).mono ?_;rintro e w3 ⟨⟨a3,n3,cap3,rfl,R3⟩,hm⟩;have hz:=bZ_ R3.sl.len R2.sl.len;have hf:=Aa hv hm
  go_wp2_with fail
  refine (bS_ a3 n3 cap3 _ a' n' cap' m _ R3.sl (by omega) R3.arg (h'.below hf) (by omega)).mono ?_;rintro e w4 ⟨⟨a4,n4,cap4,rfl,hp,R4⟩,hc⟩;have hb:=Aa hf hc
  go_wp2_with fail
  refine (aZ_ a' n' cap' m _ (h'.below hb) (by omega) hn.out).mono ?_;rintro e w5 ⟨rfl,rfl⟩
  go_wp2_with fail
  refine (ba_ a n cap l (Aj l) (Aj l) _ (h.below hb) hh hj (by omega) (by omega) (by omega) (by omega)).mono ?_;rintro e w6 ⟨⟨a6,n6,cap6,rfl,hq,R6⟩,ha⟩;have R6b:=R4.below ha;have hg:=Aa hb ha
  go_wp2_with fail
  refine (bS_ a4 n4 cap4 _ a6 n6 cap6 _ _ R6b.sl (by omega) R6b.arg R6.sl (by omega)).mono ?_;rintro e w7 ⟨⟨a7,n7,cap7,rfl,hr,R7⟩,he⟩;have hk:=Aa hg he;go_wp2;go_returns;exact⟨⟨a7,n7,cap7,rfl,by omega,by rw[hl.out];exact R7.mono hg.size⟩,hk⟩
 ·by_cases hm2:at'+Aj m<Aj l
  ·have hl:Hid (Bd l at' m=At (At (At [] (slp 0 at' 0 l)) m) (At [] (slp (at'+Aj m) (Aj l) 0 l))):=by
    show _=_;simp only[Bd,hgt,if_false];rw[Int.min_eq_left (by omega),Int.min_eq_right (by omega)]
   go_enter func107,ntmps107
   go_wp2_with fail
   refine (aZ_ a n cap l _ h (by omega) hs.out).mono ?_;rintro e w1 ⟨rfl,rfl⟩
   go_wp2_with fail
   refine (ba_ a n cap l 0 at' _ h hh hj (by omega) (by omega) (by omega) (by omega)).mono ?_;rintro e w2 ⟨⟨a3,n3,cap3,rfl,hx,R3⟩,hf⟩
   go_wp2_with fail
   refine (bS_ a3 n3 cap3 _ a' n' cap' m _ R3.sl (by omega) R3.arg (h'.below hf) (by omega)).mono ?_;rintro e w4 ⟨⟨a4,n4,cap4,rfl,hp,R4⟩,hc⟩;have hb:=Aa hf hc
   go_wp2_with fail
   refine (aZ_ a' n' cap' m _ (h'.below hb) (by omega) hn.out).mono ?_;rintro e w5 ⟨rfl,rfl⟩
   go_wp2_with fail
   refine (ba_ a n cap l (at'+Aj m) (Aj l) _ (h.below hb) hh hj (by omega) (by omega) (by omega) (by omega)).mono ?_;rintro e w6 ⟨⟨a6,n6,cap6,rfl,hq,R6⟩,ha⟩;have R6b:=R4.below ha;have hg:=Aa hb ha
   go_wp2_with fail
   refine (bS_ a4 n4 cap4 _ a6 n6 cap6 _ _ R6b.sl (by omega) R6b.arg R6.sl (by omega)).mono ?_;rintro e w7 ⟨⟨a7,n7,cap7,rfl,hr,R7⟩,he⟩;have hk:=Aa hg he;go_wp2;go_returns;exact⟨⟨a7,n7,cap7,rfl,by omega,by rw[hl.out];exact R7.mono hg.size⟩,hk⟩
  ·have hl:Hid (Bd l at' m=At (At (At [] (slp 0 at' 0 l)) m) (At [] (slp (Aj l) (Aj l) 0 l))):=by
    show _=_;simp only[Bd,hgt,if_false];rw[Int.min_eq_left (by omega),Int.min_eq_left (by omega)]
   go_enter func107,ntmps107
   go_wp2_with fail
   refine (aZ_ a n cap l _ h (by omega) hs.out).mono ?_;rintro e w1 ⟨rfl,rfl⟩
   go_wp2_with fail
   refine (ba_ a n cap l 0 at' _ h hh hj (by omega) (by omega) (by omega) (by omega)).mono ?_;rintro e w2 ⟨⟨a3,n3,cap3,rfl,hx,R3⟩,hf⟩
   go_wp2_with fail
   refine (bS_ a3 n3 cap3 _ a' n' cap' m _ R3.sl (by omega) R3.arg (h'.below hf) (by omega)).mono ?_;rintro e w4 ⟨⟨a4,n4,cap4,rfl,hp,R4⟩,hc⟩;have hb:=Aa hf hc
   go_wp2_with fail
   refine (aZ_ a' n' cap' m _ (h'.below hb) (by omega) hn.out).mono ?_;rintro e w5 ⟨rfl,rfl⟩
   go_wp2_with fail
   refine (ba_ a n cap l (Aj l) (Aj l) _ (h.below hb) hh hj (by omega) (by omega) (by omega) (by omega)).mono ?_;rintro e w6 ⟨⟨a6,n6,cap6,rfl,hq,R6⟩,ha⟩;have R6b:=R4.below ha;have hg:=Aa hb ha
   go_wp2_with fail
   refine (bS_ a4 n4 cap4 _ a6 n6 cap6 _ _ R6b.sl (by omega) R6b.arg R6.sl (by omega)).mono ?_;rintro e w7 ⟨⟨a7,n7,cap7,rfl,hr,R7⟩,he⟩;have hk:=Aa hg he;go_wp2;go_returns;exact⟨⟨a7,n7,cap7,rfl,by omega,by rw[hl.out];exact R7.mono hg.size⟩,hk⟩
theorem bl_ {d:ByteArray}(h:Aw d=true):1<=d.size:=by simp[Aw] at h;omega
theorem fe_ {size:Int}:∀ {l:List Ex} {next addr:Int},xgo size next l=true->addr<next->DZ addr l=l
 |[],_,_,_,_=>rfl
 |e::r,next,addr,h,ha=>by
  simp only[xgo,Zf,ZU] at h;obtain⟨⟨⟨h1,h2⟩,h3⟩,h4⟩:=h;have hr:=fe_ h4 (show addr<e.a+e.d.size by omega);have hb:(e.a==addr)=false:=ZV.2 (by omega);simp only[DZ,ZH,hb,Bool.not_false,if_true] at hr ⊢;rw[hr]
def HM (addr:Int):List Ex->Nat
 |[]=>0
 |e::r=>if e.a<addr then HM addr r+1 else 0
def Mm (l:List Ex)(x:Ex):List Ex:=l.take (HM x.a l)++[x]++l.drop (HM x.a l)
theorem iM_ {o:Nat}{l:List Ex}(h:BZ w (some ⟨b,o,none⟩) n l)(j cap:Nat)(hj:j<=n)(hc:n<=cap):
  BZ w (if cap=j then some ⟨b,o,none⟩ else some ⟨b,o+j*2,none⟩) (n-j) (l.drop j):=by
 split
 ·rw[Ze (by rw[h.len];omega)];exact⟨by simp;omega,fun i x hx=>by simp at hx⟩
 ·exact h.drop j
end
section
open Go Go.RowKit
variable{m size:Int}
def CC (size:Int)(l:List Ex)(d:ByteArray):Option (List Ex×Int):=
 if Am size l=true∧Aw d=true∧l.length≠60 then ((ggo size 1 l).find? (fun x=>decide ((d.size:Int)<=x.2))).map (fun x=>(Mm l ⟨x.1,d⟩,x.1)) else none
def CU (size m:Int):Nat->Int->List Ex->Option (Nat×Int)
 |k,next,[]=>if m<=size+1-next then some (k,next) else none
 |k,next,e::r=>if m<=e.a-next then some (k,next) else CU size m (k+1) (e.a+e.d.size) r
theorem iN_ (hm:1<=m):∀ {L:List Ex} {next:Int} (k:Nat),xgo size next L=true->
  ((ggo size next L).find? (fun x=>decide (m<=x.2))).map (·.1)=(CU size m k next L).map (·.2)
 |[],next,k,_=>by
  rw[ggo,CU];by_cases h:m<=size+1-next
  ·rw[if_pos (show next<=size by omega),if_pos h];simp[h]
  ·rw[if_neg h];split
   ·simp[h]
   ·rfl
 |e::r,next,k,hx=>by
  simp only[xgo,Zf,ZU] at hx;obtain⟨⟨⟨h1,h2⟩,h3⟩,h4⟩:=hx;have ih:=iN_ hm (k+1) h4;rw[ggo,CU];by_cases h:m<=e.a-next
  ·rw[if_pos (show next<e.a by omega),if_pos h];simp[h]
  ·rw[if_neg h,<-ih];split
   ·simp[h]
   ·simp
theorem ol_:∀ {L:List Ex} {next:Int},xgo size next L=true->∀ addr,addr<=next->HM addr L=0
 |[],_,_,_,_=>rfl
 |e::r,next,hx,addr,ha=>by
  simp only[xgo,Zf,ZU] at hx;rw[HM,if_neg (by omega)]
theorem ks_ (hm:1<=m):∀ {L:List Ex} {next:Int} (k:Nat),xgo size next L=true->∀ j nx,CU size m k next L=some (j,nx)->next<=nx∧j=k+HM nx L
 |[],next,k,_,j,nx,h=>by
  rw[CU] at h;split at h
  ·cases h;exact⟨YB _,rfl⟩
  ·cases h
 |e::r,next,k,hx,j,nx,h=>by
  have ha:=hx;simp only[xgo,Zf,ZU] at hx;obtain⟨⟨⟨h1,h2⟩,h3⟩,h4⟩:=hx;rw[CU] at h;split at h
  ·cases h;exact⟨YB _,by rw[ol_ ha _ (YB _)];rfl⟩
  ·obtain⟨q1,q2⟩:=ks_ hm (k+1) h4 j nx h;have hp:=bl_ h1;refine⟨by omega,?_⟩;rw[HM,if_pos (by omega)];omega
def BN (size:Int)(l:List Ex)(d:ByteArray):Option (List Ex×Int):=
 if Am size l=true∧Aw d=true∧l.length≠60 then (CU size d.size 0 1 l).map (fun x=>(l.take x.1++[⟨x.2,d⟩]++l.drop x.1,x.2)) else none
theorem hE_ (size:Int)(l:List Ex)(d:ByteArray):BN size l d=CC size l d:=by
 unfold BN CC;by_cases h:Am size l=true∧Aw d=true∧l.length≠60
 ·rw[if_pos h,if_pos h];obtain⟨h1,h2,h3⟩:=h;obtain⟨_,_,_,hx⟩:=cu_ h1;have hd:=bl_ h2;have e1:=iN_ (m:=d.size) (by omega) 0 hx
  cases hp:CU size d.size 0 1 l with
  |none=>
   rw[hp] at e1
   cases hf:(ggo size 1 l).find? (fun x=>decide ((d.size:Int)<=x.2)) with
   |none=>rfl
   |some y=>rw[hf] at e1;cases e1
  |some x=>
   obtain⟨j,nx⟩:=x;obtain⟨q1,q2⟩:=ks_ (by omega) 0 hx j nx hp;rw[hp] at e1
   cases hf:(ggo size 1 l).find? (fun x=>decide ((d.size:Int)<=x.2)) with
   |none=>rw[hf] at e1;cases e1
   |some y=>
    rw[hf] at e1;simp at e1;simp only[Option.map_some,Mm];rw[e1,show HM nx l=j by omega]
 ·rw[if_neg h,if_neg h]
end
section
open Go Go.RowKit Go.BigFrame Tryz
variable{size:Int}{l:List Ex}
def MO (B:Nat)(e:Ending)(w':World):Option (List Ex×Int)->Prop
 |none=>e=.returned (.tuple #[.slice none 0 0,.int .i64 0,.bool false])
 |some (L,x)=>∃ a n cap,e=.returned (.tuple #[.slice a n cap,.int .i64 x,.bool true])∧Ad Ex.cs 2 77 w' B a n cap L
theorem qp_ (k:Nat)(hk:k<=l.length):(gl size 1 l)[k]?=some ((match l[k]? with | some e=>e.a | none=>size+1)-(glA size l k).2):=by
 rw[lB_ k hk,Zv (by rw[jd_ k hk];omega),jd_ k hk,Nat.sub_self];by_cases h:k<l.length
 ·have hp:l[k]?=some l[k]:=by simp[h]
  rw[al_ hp,hp,gl];rfl
 ·rw[Ze (by omega),show l[k]?=none by simp;omega,gl];rfl
theorem pA_ {m:Int}(k:Nat)(hk:k<l.length+1):CU size m k (glA size l k).2 (l.drop k)=(if m<=(match l[k]? with | some e=>e.a | none=>size+1)-(glA size l k).2 then some (k,(glA size l k).2) else (if k<l.length then CU size m (k+1) (glA size l (k+1)).2 (l.drop (k+1)) else none)):=by
 by_cases h:k<l.length
 ·have hp:l[k]?=some l[k]:=by simp[h]
  rw[al_ hp,hp,CU,if_pos h,da_ hp]
 ·rw[Ze (by omega),show l[k]?=none by simp;omega,CU,if_neg h]
theorem gK_ (size:Int)(b o n cap:Nat)(l:List Ex)(d:ByteArray)(w:World)(h:BZ w (some ⟨b,o,none⟩) n l)(hstr:Dt l)(hn:n<=4194304)(hcap:n<=cap)(hd:d.size<=9223372036854775807):
  Calls prog 106 #[.int .i64 size,.slice (some ⟨b,o,none⟩) n cap,.string d] w fun e w'=>MO w.heap.size e w' (CC size l d)∧Below w.heap.size w w':=by
 have ha:Hid (l.length=n):=h.len;rw[<-hE_]
 have hw:d.toList=[]↔d.size=0:=by
  constructor
  ·intro e
   have:d=ByteArray.mk #[]:=jV_ (by rw[e,Zu])
   rw[this];rfl
  ·intro e;rw[show d=ByteArray.mk #[] from ByteArray.ext (Array.eq_empty_of_size_eq_zero e),Zu]
 cases hj:Am size l
 ·have hf:BN size l d=none:=by simp[BN,hj]
  rw[hf];go_enter func106,ntmps106
  go_wp2_with fail
  refine (aT_ size _ n cap l _ h hstr hn).mono ?_;rintro e w1 ⟨rfl,rfl⟩;rw[hj];go_wp2;go_returns;exact⟨rfl,Yg _ _⟩
 ·obtain⟨qa,hX,h5,hY⟩:=cu_ hj;rw[ha.out] at h5;by_cases hz:d.size=0
  ·have hQ:d.toList=[]:=hw.2 hz;have qb:d.toList.isEmpty=true:=by rw[hQ];rfl
   have hf:BN size l d=none:=by simp[BN,Aw,hz]
   rw[hf];go_enter func106,ntmps106
   go_wp2_with fail
   refine (aT_ size _ n cap l _ h hstr hn).mono ?_;rintro e w1 ⟨rfl,rfl⟩;rw[hj];go_wp2;go_returns;exact⟨rfl,Yg _ _⟩
  ·have hQ:¬ d.toList=[]:=fun e=>hz (hw.1 e);have qb:d.toList.isEmpty=false:=by cases hh:d.toList.isEmpty;rfl;exact absurd (List.isEmpty_iff.1 hh) hQ
   cases hm:(plainB d&&decide (d.size<=20))
   ·have hf:BN size l d=none:=by
     have:Aw d=false:=by rw[dz_,hm];simp
     simp[BN,this]
    rw[hf];go_enter func106,ntmps106
    go_wp2_with fail
    refine (aT_ size _ n cap l _ h hstr hn).mono ?_;rintro e w1 ⟨rfl,rfl⟩;rw[hj]
    go_wp2_with fail
    refine (a7_ d _ hd).mono ?_;rintro e w1 ⟨rfl,rfl⟩;rw[hm];go_wp2;go_returns;exact⟨rfl,Yg _ _⟩
   ·have h2:Aw d=true:=by rw[dz_,hm];simp;omega
    by_cases h60:n=60
    ·have hJ:((n:Int)==60)=true:=by simp[h60]
     have hf:BN size l d=none:=by simp[BN,ha.out,h60]
     rw[hf];clear h60;go_enter func106,ntmps106
     go_wp2_with fail
     refine (aT_ size _ n cap l _ h hstr hn).mono ?_;rintro e w1 ⟨rfl,rfl⟩;rw[hj]
     go_wp2_with fail
     refine (a7_ d _ hd).mono ?_;rintro e w1 ⟨rfl,rfl⟩;rw[hm];go_wp2;go_returns;exact⟨rfl,Yg _ _⟩
    ·have hJ:((n:Int)==60)=false:=ZV.2 (by omega);have h1:d.size<=20:=by simp at hm;exact hm.2
     have hf:Hid (BN size l d=(CU size d.size 0 1 l).map (fun x=>(l.take x.1++[⟨x.2,d⟩]++l.drop x.1,x.2))):=by show _=_;unfold BN;rw[if_pos ⟨hj,h2,by rw[ha.out];exact h60⟩]
     have hO:=n3_ (size:=size) (L:=l) (next:=1);rw[ha.out] at hO;generalize hR:BN size l d=R at *;clear hR;obtain⟨i0,hi,hr,hs,ht⟩:=info_parts KJ;go_enter func106,ntmps106
     go_wp2_with fail
     refine (aT_ size _ n cap l _ h hstr hn).mono ?_;rintro e w1 ⟨rfl,rfl⟩;rw[hj]
     go_wp2_with fail
     refine (a7_ d _ hd).mono ?_;rintro e w1 ⟨rfl,rfl⟩;rw[hm]
     go_wp2_with fail
     refine (j4_ size _ n cap l _ h (by omega) qa hX hY).mono ?_;rintro e w2 ⟨⟨ag,ng,capg,rfl,Rg⟩,hS⟩;have hW:=Rg.sl.len;rw[hO] at hW;have h6:ng<=n+1:=by omega
     have h7:n+1<=ng:=by omega
     clear hW hO;have hG:=Rg.sl
     go_wp2_with fail
     go_loopw [10,11] (fun nx ix wr=>∃ (k:Nat),k<=ng∧ix=.int .i64 k∧(k<ng->nx=.int .i64 (glA size l k).2∧Hid (CU size d.size 0 1 l=CU size d.size k (glA size l k).2 (l.drop k)))∧(k=ng->(∃ y:Int,nx=.int .i64 y)∧Hid (CU size d.size 0 1 l=none))∧Below w2.heap.size w2 wr) (fun _ ix _=>ng-(intOf ix).toNat)
     case atStart=>exact⟨0,Zg _,rfl,fun _=>⟨rfl,by show _=_;simp[glA]⟩,fun e=>by omega,Yg _ _⟩
     case round=>
      obtain⟨k,hk,rfl,hP,hl,hB⟩:=hrel;by_cases hlt:k<ng
      ·obtain⟨rfl,hI⟩:=hP hlt;clear hP hl;have hV:k<=l.length:=by rw[ha.out];omega
       obtain⟨bg,og,x,h0,hx,c0⟩:=nW_ (hG.below hB) hlt
       have hH:x=(match l[k]? with | some e=>e.a | none=>size+1)-(glA size l k).2:=by
        have:=qp_ (size:=size) (l:=l) k hV
        rw[this] at hx;exact (Zi hx).symm
       have hc:=pA_ (size:=size) (m:=d.size) (l:=l) k (by omega);rw[<-hH] at hc;obtain⟨q1,q2,q3⟩:=lC_ (l:=l) hX k hV hY;subst h0;have hv:=Aa hS hB;have hF:=hv.size;have qc:(k:Int)<ng:=by omega
       have qd:(0:Int)<=k:=by omega
       have hL:∀ u,Below w1.heap.size w1 u->BZ u (some ⟨b,o,none⟩) k (l.take k):=fun u hu=>(h.below hu).take (by omega);have hZ:∀ u,Below w1.heap.size w1 u->BZ u (if cap=k then some ⟨b,o,none⟩ else some ⟨b,o+k*2,none⟩) (n-k) (l.drop k):=fun u hu=>iM_ (h.below hu) k cap (by omega) hcap;by_cases hfit:(d.size:Int)<=x
       ·rw[if_pos hfit] at hc;have hA:Hid (R=some ([]++l.take k++[⟨(glA size l k).2,d⟩]++l.drop k,(glA size l k).2)):=by show _=_;rw[hf.out,hI.out,hc];simp
        clear hc hI hf q3 hx hH;generalize (glA size l k).2=nk at *;by_cases hkn:k=n
        ·subst hkn;have hT:∀ (u:World) (q:Option Addr),BZ u q 0 (l.drop k):=fun u q=>by rw[Ze (Zm ha.out)];exact⟨rfl,fun i x hx=>by simp at hx⟩
         go_wp2_with (first | (at_builtin;refine ag_ rfl (fun K hK=>ay_ _ _ 24 rfl w1.heap.size 77 i0 (.agg #[.int .i64 0,.string .empty]) 24 underlying24 hi hr hs ht rfl (by decide) aK_ aU_ _ 0 0 [] rfl (aw_ (Blk.new' _ _ _ _ (by simp)) (by omega)) (some ⟨b,o,none⟩) k cap (l.take k) rfl (hL _ (hv.alloc hF _)) (fun ad h=>(by cases h;rfl)) (fun h=>(by cases h)) k (Zq _) (by unfold maxLen;omega) (by omega) (by simp;omega) (fun a1 cap1 u1 hC hM=>hK _ _ ?_));have he:Below w1.heap.size w1 u1:=Yi (hv.alloc hF _) hM (by simp;omega) (fun k e=>by simp[Value.ownBlock] at e;omega)) | (at_builtin;refine ag_ rfl (fun K hK=>ay_ _ _ 24 rfl w1.heap.size 77 i0 (.agg #[.int .i64 0,.string .empty]) 24 underlying24 hi hr hs ht rfl (by decide) aK_ aU_ a1 k cap1 ([]++l.take k) rfl (hC.alloc _) _ 1 1 [(⟨nk,d⟩:Ex)] rfl (c9_ _ ⟨nk,d⟩ _ _ (by simp)) (fun ad h=>(by cases h;rfl)) (fun h=>(by cases h)) (k+1) rfl (by unfold maxLen;omega) (by omega) (by have:=he.size;simp;omega) (fun a2 cap2 u2 ho hN=>hK _ _ ?_));have hb:Below w1.heap.size w1 u2:=Yi (he.alloc he.size _) hN (by have:=he.size;simp;omega) (aG_ fun ad hg=>(hC.block ad hg).1)) | (at_builtin;refine ag_ rfl (fun K hK=>ay_ _ _ 24 rfl w1.heap.size 77 i0 (.agg #[.int .i64 0,.string .empty]) 24 underlying24 hi hr hs ht rfl (by decide) aK_ aU_ a2 (k+1) cap2 ([]++l.take k++[(⟨nk,d⟩:Ex)]) rfl ho (if cap=k then some ⟨b,o,none⟩ else some ⟨b,o+k*2,none⟩) 0 (cap-k) (l.drop k) rfl (hT _ _) (fun ad h=>(by first | (cases h;rfl) | (split at h<;>cases h<;>rfl))) (fun h=>(by first | cases h | (split at h<;>cases h))) (k+1) (by omega) (by unfold maxLen;omega) (by omega) hb.size (fun a3 cap3 u3 hE hy=>hK _ _ ?_));have hD:Below w1.heap.size w1 u3:=Yi hb hy hb.size (aG_ fun ad hg=>(ho.block ad hg).1)) | (at_builtin;refine ag_ rfl (fun K hK=>ay_ _ _ 24 rfl w1.heap.size 77 i0 (.agg #[.int .i64 0,.string .empty]) 24 underlying24 hi hr hs ht rfl (by decide) aK_ aU_ a2 (k+1) cap2 ([]++l.take k++[(⟨nk,d⟩:Ex)]) rfl ho (if cap=k then some ⟨b,o,none⟩ else some ⟨b,o+k*2,none⟩) (k-k) (cap-k) (l.drop k) rfl (by rw[Nat.sub_self];exact hT _ _) (fun ad h=>(by first | (cases h;rfl) | (split at h<;>cases h<;>rfl))) (fun h=>(by first | cases h | (split at h<;>cases h))) (k+1) (by omega) (by unfold maxLen;omega) (by omega) hb.size (fun a3 cap3 u3 hE hy=>hK _ _ ?_));have hD:Below w1.heap.size w1 u3:=Yi hb hy hb.size (aG_ fun ad hg=>(ho.block ad hg).1)))
         all_goals go_returns
         all_goals (rw[hA.out];exact⟨⟨a3,k+1,cap3,rfl,hE⟩,hD⟩)
        ·have h4:k<n:=by omega
         go_wp2_with (first | (at_builtin;refine ag_ rfl (fun K hK=>ay_ _ _ 24 rfl w1.heap.size 77 i0 (.agg #[.int .i64 0,.string .empty]) 24 underlying24 hi hr hs ht rfl (by decide) aK_ aU_ _ 0 0 [] rfl (aw_ (Blk.new' _ _ _ _ (by simp)) (by omega)) (some ⟨b,o,none⟩) k cap (l.take k) rfl (hL _ (hv.alloc hF _)) (fun ad h=>(by cases h;rfl)) (fun h=>(by cases h)) k (Zq _) (by unfold maxLen;omega) (by omega) (by simp;omega) (fun a1 cap1 u1 hC hM=>hK _ _ ?_));have he:Below w1.heap.size w1 u1:=Yi (hv.alloc hF _) hM (by simp;omega) (fun k e=>by simp[Value.ownBlock] at e;omega)) | (at_builtin;refine ag_ rfl (fun K hK=>ay_ _ _ 24 rfl w1.heap.size 77 i0 (.agg #[.int .i64 0,.string .empty]) 24 underlying24 hi hr hs ht rfl (by decide) aK_ aU_ a1 k cap1 ([]++l.take k) rfl (hC.alloc _) _ 1 1 [(⟨nk,d⟩:Ex)] rfl (c9_ _ ⟨nk,d⟩ _ _ (by simp)) (fun ad h=>(by cases h;rfl)) (fun h=>(by cases h)) (k+1) rfl (by unfold maxLen;omega) (by omega) (by have:=he.size;simp;omega) (fun a2 cap2 u2 ho hN=>hK _ _ ?_));have hb:Below w1.heap.size w1 u2:=Yi (he.alloc he.size _) hN (by have:=he.size;simp;omega) (aG_ fun ad hg=>(hC.block ad hg).1)) | (at_builtin;refine ag_ rfl (fun K hK=>ay_ _ _ 24 rfl w1.heap.size 77 i0 (.agg #[.int .i64 0,.string .empty]) 24 underlying24 hi hr hs ht rfl (by decide) aK_ aU_ a2 (k+1) cap2 ([]++l.take k++[(⟨nk,d⟩:Ex)]) rfl ho (some ⟨b,o+k*2,none⟩) (n-k) (cap-k) (l.drop k) rfl ((h.below hb).drop k) (fun ad h=>(by first | (cases h;rfl) | (split at h<;>cases h<;>rfl))) (fun h=>(by first | cases h | (split at h<;>cases h))) (n+1) (by omega) (by unfold maxLen;omega) (by omega) hb.size (fun a3 cap3 u3 hE hy=>hK _ _ ?_));have hD:Below w1.heap.size w1 u3:=Yi hb hy hb.size (aG_ fun ad hg=>(ho.block ad hg).1)))
         all_goals go_returns
         all_goals (rw[hA.out];exact⟨⟨a3,n+1,cap3,rfl,hE⟩,hD⟩)
       ·rw[if_neg hfit] at hc;clear hL hZ hx;by_cases hkn:k<n
        ·rw[if_pos (by rw[ha.out];exact hkn)] at hc;obtain⟨b',o',p,hU,hp,d0,d1⟩:=be_ (h.below hv) hkn;obtain⟨rfl,rfl⟩:b=b'∧o=o':=by simpa using hU
         have h3:Hid ((glA size l (k+1)).2=p.a+p.d.size):=by show _=_;rw[da_ hp]
         have hq:Hid (CU size d.size 0 1 l=CU size d.size (k+1) (glA size l (k+1)).2 (l.drop (k+1))):=by show _=_;rw[hI.out,hc]
         rw[al_ hp] at q3;simp only[xgo,Zf,ZU] at q3;have h8:p.d.size<=20:=by have:=q3.1.1.1;simp[Aw] at this;omega
         have qf:p.a<=400:=by have:=q3.1.2;have:=bl_ q3.1.1.1;omega
         have h9:1<=p.a:=by have:=q3.1.1.2;omega
         clear hp hU q3 hc hI hH;generalize (glA size l k).2=nk at *;have qe:(k:Int)<n:=by omega
         go_wp2_with fail
         go_quiet (fail)
         go_wp2;go_roundw
         case rel=>exact⟨k+1,by omega,by go_num,fun _=>⟨by rw[h3.out],hq⟩,fun e=>by omega,Aa hB (Bi _ _)⟩
         case measure=>simp[intOf];omega
        ·rw[if_neg (by rw[ha.out];exact hkn)] at hc;have hq:Hid (CU size d.size 0 1 l=none):=by show _=_;rw[hI.out,hc]
         clear q3 hc hI hH;generalize (glA size l k).2=nk at *;go_wp2;go_roundw
         case rel=>exact⟨k+1,by omega,by go_num,fun e=>by omega,fun _=>⟨⟨_,rfl⟩,hq⟩,hB⟩
         case measure=>simp[intOf];omega
      ·obtain⟨⟨y,rfl⟩,hI⟩:=hl (by omega);obtain rfl:k=ng:=by omega
       clear hP hl;go_wp2;go_returns;rw[hf.out,hI.out];exact⟨rfl,Aa hS hB⟩
end
section
open Go Go.RowKit Go.BigFrame Tryz
variable{file s vol:ByteArray}{ps:List Pt}{vs:List Vo}{i k:Nat}
def zB (d:ByteArray):Bool:=d.toList==(⟨#[]⟩:ByteArray).toList
def inB (n lo hi:Int):Bool:=decide (lo<=n)&&decide (n<=hi)
def opB (o:Opr):Bool:=
 if o.k=1∨o.k=7∨o.k=8 then nameB o.vol&&(zB o.file&&zB o.to&&zB o.into&&o.at'==0&&o.fr==0&&o.ln==0&&zB o.data)
 else if o.k=2 then nameB o.vol&&nameB o.file&&inB o.at' 0 100&&Aw o.data&&(zB o.to&&zB o.into&&o.fr==0&&o.ln==0)
 else if o.k=3 then nameB o.vol&&nameB o.file&&inB o.ln 0 100&&(zB o.to&&zB o.into&&o.at'==0&&o.fr==0&&zB o.data)
 else if o.k=4 then nameB o.vol&&nameB o.file&&(zB o.to&&zB o.into&&o.at'==0&&o.fr==0&&o.ln==0&&zB o.data)
 else if o.k=10 then nameB o.vol&&nameB o.file&&inB o.at' 0 100&&inB o.ln 1 100&&(zB o.to&&zB o.into&&o.fr==0&&zB o.data)
 else if o.k=5 then nameB o.vol&&nameB o.file&&nameB o.to&&nameB o.into&&inB o.at' 0 100&&inB o.fr 0 100&&inB o.ln 1 100&&zB o.data
 else if o.k=6 then nameB o.vol&&nameB o.to&&(zB o.file&&zB o.into&&o.at'==0&&o.fr==0&&o.ln==0&&zB o.data)
 else if o.k=9 then zB o.vol&&zB o.file&&zB o.to&&zB o.into&&o.at'==0&&o.fr==0&&o.ln==0&&zB o.data
 else false
def Bb (vs:List Vo)(s:ByteArray):Option Nat:=vs.findIdx? (fun v=>v.nm.toList==s.toList)
def itI (l:List It)(s:ByteArray):Option Nat:=l.findIdx? (fun x=>x.nm.toList==s.toList)
def BJ:Option Nat->Int
 |none=>-1
 |some i=>i
def AH (vs:List Vo)(vol file:ByteArray):Option (List Pt):=
 (Bb vs vol).bind fun i=>vs[i]?.bind fun v=>(itI v.its file).bind fun k=>v.its[k]?.map (·.ps)
theorem np_ {x:Vo}(h:vs[k]?=some x):(Bb (vs.drop k) s).map (·+k)=if (x.nm.toList==s.toList)=true then some k else (Bb (vs.drop (k+1)) s).map (·+(k+1)):=by
 unfold Bb;rw[al_ h,List.findIdx?_cons];split
 ·simp
 ·rw[Option.map_map];congr 1;funext i;simp;omega
theorem ku_ {vs:List It}{x:It}(h:vs[k]?=some x):(itI (vs.drop k) s).map (·+k)=if (x.nm.toList==s.toList)=true then some k else (itI (vs.drop (k+1)) s).map (·+(k+1)):=by
 unfold itI;rw[al_ h,List.findIdx?_cons];split
 ·simp
 ·rw[Option.map_map];congr 1;funext i;simp;omega
theorem pC_ (h:Bb vs s=some i):i<vs.length:=by
 unfold Bb at h;rw[ZA] at h;exact h.1
theorem pY_ {vs:List It}(h:itI vs s=some i):i<vs.length:=by
 unfold itI at h;rw[ZA] at h;exact h.1
theorem ak_ (B:Nat)(size next:Int)(ea:Option Addr)(en ec:Nat)(va:Option Addr)(vn vc:Nat)(ra:Option Addr)(rn rc:Nat)(la:Option Addr)(ln lc:Nat)(vs:List Vo)(s:ByteArray)(w:World)(h2:Bp B w va vn vs)(z3:vn<=4194304):
  Calls prog 104 #[.agg #[.int .i64 size,.int .i64 next,.slice ea en ec,.slice va vn vc,.slice ra rn rc,.slice la ln lc],.string s] w fun e w'=>e=.returned (.int .i64 (BJ (Bb vs s)))∧Below w.heap.size w w':=by
 have hc:Hid (vs.length=vn):=h2.len;have hR:Hid (Bb vs s=(Bb (vs.drop 0) s).map (·+0)):=by show _=_;simp
 generalize Bb vs s=R at *;have C:=(Blk.new w #[.int .i64 size,.int .i64 next,.slice ea en ec,.slice va vn vc,.slice ra rn rc,.slice la ln lc] 28);have hb:Below w.heap.size w (w.alloc (.cells #[.int .i64 size,.int .i64 next,.slice ea en ec,.slice va vn vc,.slice ra rn rc,.slice la ln lc] 28)):=by go_grown
 go_enter func104,ntmps104
 go_wp2_with fail
 generalize w.alloc (.cells #[.int .i64 size,.int .i64 next,.slice ea en ec,.slice va vn vc,.slice ra rn rc,.slice la ln lc] 28)=W0 at *
 go_loopw [5] (fun ix wr=>∃ (k:Nat),k<=vn∧ix=.int .i64 k∧Hid (R=(Bb (vs.drop k) s).map (·+k))∧Below W0.heap.size W0 wr) (fun ix _=>vn-(intOf ix).toNat)
 case atStart=>exact⟨0,Zg _,rfl,hR,Yg _ _⟩
 case round=>
  clear hR;obtain⟨k,hk,rfl,hI,hB⟩:=hrel;have d3:=(C.below hB).cell 3;replace hb:=Aa hb hB;simp only[lgA,lgB,lgC] at d3;by_cases hlt:k<vn
  ·obtain⟨b,o,x,qa,qn,qc,rfl,hx,e0,e1,e2,e3,hP,_,_⟩:=b5_ (h2.below hb) hlt;have ha:Hid (R=if (x.nm.toList==s.toList)=true then some k else (Bb (vs.drop (k+1)) s).map (·+(k+1))):=by show _=_;rw[hI.out,np_ hx]
   have hf:(k:Int)<vn:=by omega
   have hg:(0:Int)<=k:=by omega
   clear hx hI
   cases hs:(x.nm.toList==s.toList)
   ·rw[hs] at ha;simp only[Zj,if_false] at ha;have he:¬ x.nm.toList=s.toList:=by simpa using hs
    go_wp2;go_roundw
    case rel=>exact⟨k+1,by omega,by go_num,ha,hB⟩
    case measure=>simp[intOf];omega
   ·rw[hs] at ha;simp only[if_true] at ha;have he:x.nm.toList=s.toList:=by simpa using hs
    go_wp2;go_returns;exact⟨by rw[ha.out];rfl,hb⟩
  ·obtain rfl:k=vn:=by omega
   go_wp2;go_returns;exact⟨by rw[hI.out,Ze (Zm hc.out)];rfl,hb⟩
theorem cf_ (B:Nat)(id:Int)(nm:ByteArray)(fx:Bool)(pa:Option Addr)(pn pc:Nat)(its:List It)(s:ByteArray)(w:World)(h2:Bw B w pa pn its)(z3:pn<=4194304):
  Calls prog 111 #[.agg #[.int .i64 id,.string nm,.bool fx,.slice pa pn pc],.string s] w fun e w'=>e=.returned (.int .i64 (BJ (itI its s)))∧Below w.heap.size w w':=by
 have hc:Hid (its.length=pn):=h2.len;have hR:Hid (itI its s=(itI (its.drop 0) s).map (·+0)):=by show _=_;simp
 generalize itI its s=R at *;have C:=(Blk.new w #[.int .i64 id,.string nm,.bool fx,.slice pa pn pc] 80);have hb:Below w.heap.size w (w.alloc (.cells #[.int .i64 id,.string nm,.bool fx,.slice pa pn pc] 80)):=by go_grown
 go_enter func111,ntmps111
 go_wp2_with fail
 generalize w.alloc (.cells #[.int .i64 id,.string nm,.bool fx,.slice pa pn pc] 80)=W0 at *
 go_loopw [5] (fun ix wr=>∃ (k:Nat),k<=pn∧ix=.int .i64 k∧Hid (R=(itI (its.drop k) s).map (·+k))∧Below W0.heap.size W0 wr) (fun ix _=>pn-(intOf ix).toNat)
 case atStart=>exact⟨0,Zg _,rfl,hR,Yg _ _⟩
 case round=>
  clear hR;obtain⟨k,hk,rfl,hI,hB⟩:=hrel;have d3:=(C.below hB).cell 3;replace hb:=Aa hb hB;simp only[lgA,lgB,lgC] at d3;by_cases hlt:k<pn
  ·obtain⟨b,o,x,qa,qn,qc,rfl,hx,e0,e1,hP,_,_,_⟩:=bO_ (h2.below hb) hlt;have ha:Hid (R=if (x.nm.toList==s.toList)=true then some k else (itI (its.drop (k+1)) s).map (·+(k+1))):=by show _=_;rw[hI.out,ku_ hx]
   have hf:(k:Int)<pn:=by omega
   have hg:(0:Int)<=k:=by omega
   clear hx hI
   cases hs:(x.nm.toList==s.toList)
   ·rw[hs] at ha;simp only[Zj,if_false] at ha;have he:¬ x.nm.toList=s.toList:=by simpa using hs
    go_wp2;go_roundw
    case rel=>exact⟨k+1,by omega,by go_num,ha,hB⟩
    case measure=>simp[intOf];omega
   ·rw[hs] at ha;simp only[if_true] at ha;have he:x.nm.toList=s.toList:=by simpa using hs
    go_wp2;go_returns;exact⟨by rw[ha.out];rfl,hb⟩
  ·obtain rfl:k=pn:=by omega
   go_wp2;go_returns;exact⟨by rw[hI.out,Ze (Zm hc.out)];rfl,hb⟩
def Kl (B:Nat)(e:Ending)(w':World):Option (List Pt)->Prop
 |none=>e=.returned (.tuple #[.slice none 0 0,.bool false])
 |some ps=>∃ pa pn pc,e=.returned (.tuple #[.slice pa pn pc,.bool true])∧BI w' pa pn ps∧Hd B pa pn pc∧ps.length<=4194304
theorem aH_ (B:Nat)(v:Value)(p:Po)(vol file:ByteArray)(w:World)(h:AW B w v p)(hd:AJ p):
  Calls prog 105 #[v,.string vol,.string file] w fun e w'=>Kl B e w' (AH p.vs vol file)∧Below w.heap.size w w':=by
 obtain⟨ea,en,ec,va,vn,vc,ra,rn,rc,la,ln,lc,rfl,⟨h1,k1⟩,⟨h2,k2⟩,⟨h3,k3⟩,h4,k4⟩:=h;obtain⟨z1,z2,z3,z4,z5,z6,z7,z8⟩:=hd;rw[h2.len] at z3;obtain⟨size,next,ex,vs,rf,lt⟩:=p;simp only at h1 h2 h3 h4 z2 z4 z6 z8 ⊢;have hR:Hid (AH vs vol file=(Bb vs vol).bind fun i=>vs[i]?.bind fun v=>(itI v.its file).bind fun k=>v.its[k]?.map (·.ps)):=rfl;generalize AH vs vol file=R at *;have C:=(Blk.new w #[.int .i64 size,.int .i64 next,.slice ea en ec,.slice va vn vc,.slice ra rn rc,.slice la ln lc] 28);have hf:Below w.heap.size w (w.alloc (.cells #[.int .i64 size,.int .i64 next,.slice ea en ec,.slice va vn vc,.slice ra rn rc,.slice la ln lc] 28)):=by go_grown
 go_enter func105,ntmps105
 go_wp2_with fail
 generalize w.alloc (.cells #[.int .i64 size,.int .i64 next,.slice ea en ec,.slice va vn vc,.slice ra rn rc,.slice la ln lc] 28)=W0 at *;refine (ak_ B size next ea en ec va vn vc ra rn rc la ln lc vs vol _ (h2.below hf) z3).mono ?_;rintro e w1 ⟨rfl,ha⟩;have C1:=C.below ha;replace ha:=Aa hf ha;clear C hf;have d3:=C1.cell 3;simp only[lgA,lgB,lgC] at d3
 cases he:Bb vs vol with
 |none=>
  rw[he] at hR;replace hR:Hid (R=none):=hR;rw[show BJ none=-1 from rfl];clear he;go_wp2;go_returns;exact⟨by rw[hR.out];rfl,ha⟩
 |some i=>
  rw[he] at hR;rw[show BJ (some i)=(i:Int) from rfl];have hg:=pC_ he;rw[h2.len] at hg;clear he;obtain⟨b,o,x,qa,qn,qc,rfl,hx,e0,e1,e2,e3,hP,hH,hn⟩:=b5_ (h2.below ha) hg;replace hR:Hid (R=(itI x.its file).bind fun k=>x.its[k]?.map (·.ps)):=by show _=_;rw[hR.out,YO,hx,YO]
  obtain⟨m1,m2,m3⟩:=z4 x (Zc hx);have hj:Hid (x.its.length=qn):=hP.len;rw[hj.out] at m2;have hq:(i:Int)<vn:=by omega
  have hr:(0:Int)<=i:=by omega
  clear hx
  go_wp2_with fail
  refine (cf_ B x.id x.nm x.fx qa qn qc x.its file _ hP m2).mono ?_;rintro e w2 ⟨rfl,hb⟩;have C2:=C1.below hb;have hl:=hP.below hb;have f3:=Ab hb e3;replace hb:=Aa ha hb;clear C1 ha d3 e0 e1 e2 e3 hP;have d3:=C2.cell 3;simp only[lgA,lgB,lgC] at d3
  cases hc:itI x.its file with
  |none=>
   rw[hc] at hR;replace hR:Hid (R=none):=hR;rw[show BJ none=-1 from rfl];clear hc;go_wp2;go_returns;exact⟨by rw[hR.out];rfl,hb⟩
  |some j=>
   rw[hc] at hR;rw[show BJ (some j)=(j:Int) from rfl];have hh:=pY_ hc;rw[hj.out] at hh;clear hc;obtain⟨b',o',y,pa,pn,pc,rfl,hy,g0,g1,hm,hk,_,_⟩:=bO_ hl hh;replace hR:Hid (R=some y.ps):=by show _=_;rw[hR.out,YO,hy];rfl
   obtain⟨_,m5⟩:=m3 y (Zc hy);have ho:(j:Int)<qn:=by omega
   have hp:(0:Int)<=j:=by omega
   clear hy;go_wp2;go_returns;exact⟨by rw[hR.out];exact⟨pa,pn,pc,rfl,hm,hk,m5⟩,hb⟩
theorem lQ_ (h:AH vs vol file=some ps):∃ v∈vs,∃ x∈v.its,x.ps=ps:=by
 unfold AH at h;simp only[Option.bind_eq_some_iff,ZW] at h;obtain⟨i,_,v,hv,k,_,x,hx,rfl⟩:=h;exact⟨v,Zc hv,x,Zc hx,rfl⟩
theorem bb_ {p:Po}(hp:Ap p=true)(h:AH p.vs vol file=some ps):Ae ps=true∧(AP ps p.ex).isSome=true:=by
 obtain⟨v,hv,x,hx,rfl⟩:=lQ_ h;obtain⟨_,h2,_⟩:=bL_ hp;obtain⟨h3,_⟩:=b0_ h2 v hv;simp only[itemsB,Zf] at h3;have h4:=db_ h3.2 x hx;refine⟨?_,h4⟩;unfold AP at h4;split at h4
 ·rename_i hh;exact hh.1
 ·cases h4
end
section
open Go Go.RowKit
variable{x:It}{l:List It}
def Cj (x:It)(st:List It×Bool)(y:It):List It×Bool:=
 ((if (!st.2&&!(bl y.nm.toList x.nm.toList))=true then st.1++[x] else st.1)++(if (y.nm.toList==x.nm.toList)=true then [] else [y]),st.2||!(bl y.nm.toList x.nm.toList))
def IO (x:It)(st:List It×Bool):List It:=if st.2=true then st.1 else st.1++[x]
def FU (x:It)(l:List It)(k:Nat):List It×Bool:=(l.take k).foldl (Cj x) ([],false)
def CV (x:It)(l:List It):List It:=IO x (l.foldl (Cj x) ([],false))
theorem nq_ {k:Nat}{y:It}(h:l[k]?=some y):FU x l (k+1)=Cj x (FU x l k) y:=by
 unfold FU;rw[ZK,h];simp
theorem om_ {n:Nat}(h:l.length=n):IO x (FU x l n)=CV x l:=by
 unfold FU CV;rw[Zk (Zm h)]
theorem kv_ (x:It):∀ (l:List It) (st:List It×Bool),(l.foldl (Cj x) st).1.length+(if (l.foldl (Cj x) st).2=true then 0 else 1)<=st.1.length+(if st.2=true then 0 else 1)+l.length
 |[],st=>Zd _
 |y::r,st=>by
  have h:=kv_ x r (Cj x st y);rw[YE]
  have h2:(Cj x st y).1.length+(if (Cj x st y).2=true then 0 else 1)<=st.1.length+(if st.2=true then 0 else 1)+1:=by
   unfold Cj;obtain⟨a,d⟩:=st
   cases d<;>cases bl y.nm.toList x.nm.toList<;>cases (y.nm.toList==x.nm.toList)<;>simp<;>omega
  simp only[Zw];omega
theorem kw_ (x:It)(l:List It):(CV x l).length<=l.length+1:=by
 have h:=kv_ x l ([],false);unfold CV IO;split
 ·rename_i hd;rw[if_pos hd] at h;simp at h;omega
 ·rename_i hd;rw[if_neg hd] at h;simp at h ⊢;omega
theorem hF_ (x:It):∀ (l:List It) (st:List It×Bool) (z:It),z∈(l.foldl (Cj x) st).1->z∈st.1∨z=x∨z∈l
 |[],st,z,h=>.inl h
 |y::r,st,z,h=>by
  rcases hF_ x r _ z h with h | h | h
  ·simp only[Cj] at h;rcases Zs.1 h with h | h
   ·split at h
    ·rcases Zs.1 h with h | h
     ·exact .inl h
     ·exact .inr (.inl (by simpa using h))
    ·exact .inl h
   ·split at h
    ·cases h
    ·exact .inr (.inr (by simp at h;simp[h]))
  ·exact .inr (.inl h)
  ·exact .inr (.inr (by simp[h]))
theorem kx_ {z:It}(h:z∈CV x l):z=x∨z∈l:=by
 unfold CV IO at h;split at h
 ·rcases hF_ x l _ z h with h | h
  ·cases h
  ·exact h
 ·rcases Zs.1 h with h | h
  ·rcases hF_ x l _ z h with h | h
   ·cases h
   ·exact h
  ·exact .inl (by simpa using h)
def EH (l:List Pt):Prop:=∀ p∈l,0<=p.a
theorem mI_ {l:List Pt}{p:Pt}(h:EH l)(hp:0<=p.a):EH (BE l p):=by
 unfold BE;split
 ·intro q hq;simp at hq;subst hq;exact hp
 ·rename_i q hq;have hm:q∈l:=List.mem_of_getLast? hq;split
  ·intro z hz;rcases Zs.1 hz with hz | hz
   ·exact h z (List.dropLast_subset l hz)
   ·simp at hz;subst hz;exact h q hm
  ·intro z hz;rcases Zs.1 hz with hz | hz
   ·exact h z hz
   ·simp at hz;subst hz;exact hp
theorem cg_:∀ {m l:List Pt},EH l->EH m->EH (At l m)
 |[],l,h,_=>h
 |p::r,l,h,hm=>cg_ (m:=r) (mI_ h (hm p (by simp))) (fun q hq=>hm q (by simp[hq]))
theorem gk_ {fr to:Int}:∀ {l:List Pt} {st:Int},EH l->EH (slp fr to st l)
 |[],_,_=>by intro q hq;simp[slp] at hq
 |p::r,st,h=>by
  have hr:=gk_ (fr:=fr) (to:=to) (l:=r) (st:=st+p.n) (fun q hq=>h q (by simp[hq]));unfold slp;split
  ·intro q hq;rcases Zn.1 hq with rfl | hq
   ·unfold Ed;split
    ·exact YB _
    ·exact h p (by simp)
   ·exact hr q hq
  ·exact hr
theorem dD_:EH []:=fun p hp=>by cases hp
end
end Go.Proofs.YtkiceokhlceciaaGreatDoor
