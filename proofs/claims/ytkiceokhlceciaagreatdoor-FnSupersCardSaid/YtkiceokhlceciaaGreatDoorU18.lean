/- Plain facts for PoolOk of the program: sets of addresses; volumes by their names. -/
import Derived.Test.YtkiceokhlceciaaGreatDoorU13
import Derived.Test.YtkiceokhlceciaaGreatDoorU15
set_option maxHeartbeats 20000000
set_option maxRecDepth 100000
namespace Go.Proofs.YtkiceokhlceciaaGreatDoor
section
open Go Go.RowKit
variable{p:Pt}
theorem fx_ {x:Int}(h0:0<=x)(h1:x<=1000000):wrap64 x=x:=by unfold wrap64;omega
theorem mQ_ {fr to st:Int}(h:max (fr-st) 0<min (to-st) p.n):1<=(Ed p (max (fr-st) 0) (min (to-st) p.n)).n∧(Ed p (max (fr-st) 0) (min (to-st) p.n)).n<=p.n:=by
 rw[gf_];omega
theorem hT_ (fr to:Int)(l:List Pt):∀ st,(∀ p∈l,1<=p.n)->(∀ p∈slp fr to st l,1<=p.n)∧Aj (slp fr to st l)<=Aj l∧(slp fr to st l).length<=l.length∧0<=Aj l:=by
 induction l with
 |nil=>intro st _;simp[slp,Aj]
 |cons p r ih=>
  intro st h;have hp:=h p (by simp);obtain⟨h1,h2,h3,h4⟩:=ih (st+p.n) (fun q hq=>h q (by simp[hq]));by_cases hx:max (fr-st) 0<min (to-st) p.n
  ·have hb:=mQ_ hx;rw[eN_ rfl rfl hx];refine⟨?_,by simp only[Aj];omega,by simp;omega,by simp only[Aj];omega⟩;intro q hq;rcases Zn.1 hq with rfl | hq
   ·exact hb.1
   ·exact h1 q hq
  ·rw[fo_ hx];exact⟨h1,by simp only[Aj];omega,by simp;omega,by simp only[Aj];omega⟩
end
section
open Go Go.RowKit Go.BigFrame Tryz
variable{r:IR}{y:It}{e:List Ex}{rows rows2:List IR}{l:List It}{B b2 cap2 n2:Nat}{a2:Option Addr}{p:Po}{w3 wr:World}
theorem fB_ (B:Nat)(hB0:0<B)(v:Value)(p:Po)(o:Opr)(w:World)(h:Ag B w v p)(hBw:B<=w.heap.size)(hd:AJ p)(hnx:1<=p.next∧p.next<=1000000000)(hk:o.k=7)(i:Nat)(hso:Bb p.vs o.vol=some i):
  Calls prog 67 #[v,.agg #[.int .i64 o.k,.string o.vol,.string o.file,.string o.to,.string o.into,.int .i64 o.at',.int .i64 o.fr,.int .i64 o.ln,.string o.data]] w fun e w'=>(∃ v' c,e=.returned (.tuple #[v',.int .i64 c])∧Bn v'∧c=(AC p o).1∧(c=0->Ag B w' v' (AC p o).2))∧Below B w w'∧FrV w w':=by
 obtain⟨ea,en,ec,va,vn,vc,ra,rn,rc,la,ln,lc,rows,rfl,h1,⟨h2,h3⟩,h4,h5,h6⟩:=h;obtain⟨z1,z2,z3,z4,z5,z6,z7,z8⟩:=hd;have hV:Bp B w va vn p.vs:=h3.rows.vs h2;rw[hV.len] at z3;obtain⟨size,next,ex,vs,rf,lt⟩:=p;obtain⟨k,vol,file,tt,into,at0,fr,ln0,data⟩:=o;simp only at h1 h2 h3 h4 h5 hV z4 z3 hnx hk ⊢;have _:=hB0;have _:=hnx;have _:=hBw;have hr:vs.length=vn:=hV.len;have hE:rows.length=vn:=h2.sl.len;subst hk;simp only at hso;have hi:=ap_ hso;have hC:i<vn:=by omega
 have hx:vs[i]?=some vs[i]:=by simp[hi]
 have hD:(0:Int)<=(i:Int):=by omega
 have hq:(i:Int)<vn:=by omega
 obtain⟨vb,rfl,hJ,hs,ht⟩:=h2.addr (by omega);have hS:Hid (AC ⟨size,next,ex,vs,rf,lt⟩ ⟨7,vol,file,tt,into,at0,fr,ln0,data⟩=(0,⟨size,next,ex,vs.take i++vs.drop (i+1),rf,lt⟩)):=by show _=_;simp[AC,hso,hx]
 generalize AC ⟨size,next,ex,vs,rf,lt⟩ ⟨7,vol,file,tt,into,at0,fr,ln0,data⟩=R at *;have hM:IntKind.i64.wrap ((i:Int)+1)=(i:Int)+1:=by rw[Ys];omega
 have hw:(i:Int)<=vc:=by omega
 have hy:(i:Int)+1<=vn:=by omega
 have hz:(vn:Int)<=vc:=by omega
 have hA:(0:Int)<=(i:Int)+1:=by omega
 have hB:(i:Int)+1<=vc:=by omega
 go_enter func67,ntmps67
 go_wp2_with fail
 refine (ak_ B size next ea en ec (some ⟨vb,0,none⟩) vn vc ra rn rc la ln lc vs vol _ (hV.below (by go_grown)) z3).mono ?_;rintro e w1 ⟨rfl,hl⟩;obtain⟨C,O,D,he,hF⟩:=bx3 hl;clear hl;obtain⟨c0,c1,c2,c3,c4,c5⟩:=C.six';have o0:w1.cell? ⟨w.heap.size+1,0,none⟩=some (.int .i64 7):=O.cell 0;have o1:w1.cell? ⟨w.heap.size+1,1,none⟩=some (.string vol):=O.cell 1;have o2:w1.cell? ⟨w.heap.size+1,2,none⟩=some (.string file):=O.cell 2;have o3:w1.cell? ⟨w.heap.size+1,3,none⟩=some (.string tt):=O.cell 3;obtain⟨x0,x1,x2,x3,x4,x5⟩:=D.six';obtain⟨f0,f1,f2,f3,f4,f5⟩:=fz6 D;rw[hso];simp only[BJ];have RA:=h2.below he
 go_wp2_with fail
 have hh:∀ u,Below w1.heap.size w1 u->(fun u=>u.cell? ⟨w.heap.size,3,none⟩=some (.slice (some ⟨vb,0,none⟩) vn vc)) u:=fun u hu=>Ab hu c3;have hv:=hh w1.drew ((Yg _ _).drew);refine ar_ (S:=(fun u=>u.cell? ⟨w.heap.size,3,none⟩=some (.slice (some ⟨vb,0,none⟩) vn vc))) 13 (by kernel_rfl) (by kernel_rfl) ?_;refine tk 1 ?_;refine tk 2 ?_;refine tk 3 ?_;refine tk 4 ?_;refine tk 6 ?_;refine tk 7 ?_;refine tk 8 ?_;refine tk 9 ?_;refine tk 10 ?_;refine Aq (i:=0) (by kernel_rfl) rfl (fun K hK=>?_);go_simp;refine hK.out _ _ (hh _ (by go_grown)) (fun hHeld=>?_);clear hK K
 try simp only[Act.put,lsA,lsB,lsC]
 refine Aq (i:=5) (by kernel_rfl) rfl (fun K hK=>?_);have hL:Below w1.heap.size w1 (w1.drew.alloc (.cells #[] 80)):=Aa ((Yg _ _).drew) (by go_grown);refine aJ_ rfl (dC_ _ _ rfl w1.heap.size _ 0 0 [] rfl (aw_ (Blk.new' _ _ _ _ (by simp)) (by simp)) (some ⟨vb,0,none⟩) i vc (rows.take i) rfl (RA.sl.below hL |>.take (by omega)) (fun ad h=>(by cases h;rfl)) (fun h=>(by cases h)) i (Zq _) (by omega) (by simp) ?_);intro a3 cap3 w3 R3 ho;have hg:Below w1.heap.size w1 w3:=Yi hL ho (by have:=hL.size;omega) (fun j e=>by simp[Value.ownBlock] at e;omega);rw[ZM] at R3;have hG:=hg.size;refine hK.out _ _ (hh _ hg) (fun hHeld=>?_);clear hK K
 try simp only[Act.put,lsA,lsB,lsC]
 refine Aq (i:=11) (by kernel_rfl) rfl (fun K hK=>?_);refine aJ_ rfl (dC_ _ _ rfl w1.heap.size a3 i cap3 (rows.take i) rfl R3 (if vc=i+1 then some ⟨vb,0,none⟩ else some ⟨vb,(i+1)*4,none⟩) (vn-(i+1)) (vc-(i+1)) (rows.drop (i+1)) rfl (by have:=oo_ (RA.sl.below hg) (i+1) vc (by omega) (by omega);simpa only[Zq] using this) (fun ad h=>(by split at h<;>(cases h;rfl))) (fun h=>(by split at h<;>cases h)) (vn-1) (by omega) (by omega) (by omega) ?_);intro a4 cap4 w4 R4 hp;have hc:Below w1.heap.size w1 w4:=Yi hg hp (by omega) (aG_ fun ad hn=>(R3.block ad hn).1);have hH:=hc.size;refine hK.out _ _ (hh _ hc) (fun hHeld=>?_);clear hK K
 try simp only[Act.put,lsA,lsB,lsC]
 refine tk 12 ?_;refine wpAnyH_done (by kernel_rfl) ?_ _;refine lastL rfl ?_;have C2:=C.below hc;have D2:=D.below hc;have ha:=Aa he hc;have P2:Ag B w4 (.agg #[.int .i64 size,.int .i64 next,.slice ea en ec,.slice a4 (vn-1) cap4,.slice ra rn rc,.slice la ln lc]) ⟨size,next,ex,vs.take i++vs.drop (i+1),rf,lt⟩:=⟨ea,en,ec,a4,vn-1,cap4,ra,rn,rc,la,ln,lc,rows.take i++rows.drop (i+1),rfl,h1.below ha,⟨R4.mono (by omega),(h3.below ha).cut i⟩,h4.below ha,h5.below ha,h6⟩;obtain⟨y0,y1,y2,y3,y4,y5⟩:=C2.six';obtain⟨q0,q1,q2,q3,q4,q5⟩:=D2.six';have g3:=C2.frozen 3;obtain⟨m0,m1,m2,m3,m4,m5⟩:=fz6 D2;go_wp2
 all_goals (
  have hf:w4.grownBy (w4.setCell ⟨w.heap.size,3,none⟩ (.slice a4 (vn-1) cap4)) (some w.heap.size):=CS w4 w.heap.size 3 (.slice a4 (vn-1) cap4);have D3:Blk (w4.setCell ⟨w.heap.size,3,none⟩ (.slice a4 (vn-1) cap4)) (w.heap.size+2) _ _:=(hf.block _ D2.lt (by simp only[ne_eq,Zo];omega)).trans D2;obtain⟨W8,hm,W0,hj⟩:=Ba D3 (.int .i64 size) (.int .i64 next) (.slice ea en ec) (.slice a4 (vn-1) cap4) (.slice ra rn rc) (.slice la ln lc);have PF:=(P2.tyP hf (aa_ C2)).tyP hj (aa_ D3);have hI:=hf.size;have B8:=((ha.mono hBw).grown hf (by omega) (fun j e=>by cases e;omega)).grown hj (by omega) (fun j e=>by cases e;omega);have FT:=fun (k:Nat) (c:Array Value) (t:TypeId) (hb:Blk w k c t) (_:t≠80)=>((hb.below ha).offB hf (B:=w.heap.size) (fun j e=>by cases e;omega) hb.lt).offB hj (B:=w.heap.size) (fun j e=>by cases e;omega) hb.lt;rw[<-hm];clear hm;refine YW (ad_ rfl _ W8 (w.heap.size+2) _ _ _ _ _ rfl W0 underlying28 rfl (by kernel_rfl) rfl) rfl ?_;exact⟨⟨_,0,rfl,bm_ _ _ _ _ _ _ _ _ _ _ _ _ _ _,by rw[hS.out],fun _=>by rw[hS.out];exact PF⟩,B8,FT⟩)
theorem cA_ (B:Nat)(hB0:0<B)(v:Value)(p:Po)(o:Opr)(w:World)(h:Ag B w v p)(hBw:B<=w.heap.size)(hd:AJ p)(hnx:1<=p.next∧p.next<=1000000000)(hk:o.k=4)(i:Nat)(hso:Bb p.vs o.vol=some i)(he:∀ x:Vo,p.vs[i]?=some x->x.fx=true)(hg:∀ x:Vo,p.vs[i]?=some x->itI x.its o.file=none):
  Calls prog 67 #[v,.agg #[.int .i64 o.k,.string o.vol,.string o.file,.string o.to,.string o.into,.int .i64 o.at',.int .i64 o.fr,.int .i64 o.ln,.string o.data]] w fun e w'=>(∃ v' c,e=.returned (.tuple #[v',.int .i64 c])∧Bn v'∧c=(AC p o).1∧(c=0->Ag B w' v' (AC p o).2))∧Below B w w'∧FrV w w':=by
 obtain⟨ea,en,ec,va,vn,vc,ra,rn,rc,la,ln,lc,rows,rfl,h1,⟨h2,h3⟩,h4,h5,h6⟩:=h;obtain⟨z1,z2,z3,z4,z5,z6,z7,z8⟩:=hd;have hV:Bp B w va vn p.vs:=h3.rows.vs h2;rw[hV.len] at z3;obtain⟨size,next,ex,vs,rf,lt⟩:=p;obtain⟨k,vol,file,tt,into,at0,fr,ln0,data⟩:=o;simp only at h1 h2 h3 h4 h5 hV z4 z3 hnx hk ⊢;have _:=hB0;have _:=hnx;have _:=hBw;have ht:vs.length=vn:=hV.len;have hw:rows.length=vn:=h2.sl.len;subst hk;simp only at hso;have hi:=ap_ hso;have hq:i<vn:=by omega
 have hx:vs[i]?=some vs[i]:=by simp[hi]
 have hA:(0:Int)<=(i:Int):=by omega
 have hs:(i:Int)<vn:=by omega
 obtain⟨m1,m2,m3⟩:=z4 _ (Zc hx);have hr:rows[i]?=some (rows[i]'(by omega)):=by simp[hw,hq]
 have VT:=h3.at' i _ _ hr hx;generalize rows[i]'(by omega)=r0 at *;generalize vs[i]=x at *;obtain⟨rid,rnm,rfx,pa0,pn0,pc0⟩:=r0;obtain⟨e1,e2,e3,irows,RI,TI⟩:=VT;simp only at e1 e2 e3 RI;subst e1 e2 e3;obtain⟨vb,rfl,hD,hy,hz⟩:=h2.addr (by omega);simp only at he hg;replace he:=he _ hx;have hf:=he;replace hg:=hg _ hx;have hn:Bw B w pa0 pn0 x.its:=TI.rows.its RI;rw[hn.len] at m2;have hS:Hid (AC ⟨size,next,ex,vs,rf,lt⟩ ⟨4,vol,file,tt,into,at0,fr,ln0,data⟩=(6,⟨size,next,ex,vs,rf,lt⟩)):=by show _=_;simp[AC,hso,hx,hf]
 generalize AC ⟨size,next,ex,vs,rf,lt⟩ ⟨4,vol,file,tt,into,at0,fr,ln0,data⟩=R at *;have ho:Hid (x.fx=true):=hf;clear hf he;go_enter func67,ntmps67
 go_wp2_with fail
 refine (ak_ B size next ea en ec (some ⟨vb,0,none⟩) vn vc ra rn rc la ln lc vs vol _ (hV.below (by go_grown)) z3).mono ?_;rintro e w1 ⟨rfl,hj⟩;obtain⟨C,O,D,ha,hB⟩:=bx3 hj;clear hj;obtain⟨c0,c1,c2,c3,c4,c5⟩:=C.six';have o0:w1.cell? ⟨w.heap.size+1,0,none⟩=some (.int .i64 4):=O.cell 0;have o1:w1.cell? ⟨w.heap.size+1,1,none⟩=some (.string vol):=O.cell 1;have o2:w1.cell? ⟨w.heap.size+1,2,none⟩=some (.string file):=O.cell 2;have o3:w1.cell? ⟨w.heap.size+1,3,none⟩=some (.string tt):=O.cell 3;obtain⟨x0,x1,x2,x3,x4,x5⟩:=D.six';obtain⟨f0,f1,f2,f3,f4,f5⟩:=fz6 D;rw[hso];simp only[BJ];have RA:=h2.below ha;have e0:w1.cell? ⟨vb,i*4,none⟩=some (.int .i64 x.id):=RA.cellAt (j:=0) hr rfl;have e1:w1.cell? ⟨vb,i*4+1,none⟩=some (.string x.nm):=RA.cellAt (j:=1) hr rfl;have e2:w1.cell? ⟨vb,i*4+2,none⟩=some (.bool x.fx):=RA.cellAt (j:=2) hr rfl;have e3:w1.cell? ⟨vb,i*4+3,none⟩=some (.slice pa0 pn0 pc0):=RA.cellAt (j:=3) hr rfl;have IA:=fun (u:World) (hu:Below w1.heap.size w1 u)=>cf_ B x.id x.nm x.fx pa0 pn0 pc0 x.its file u (((TI.below ha).below hu).rows.its ((RI.below ha).below hu)) m2;rw[hg] at IA;simp only[BJ] at IA
 go_wp2_with fail
 have g0:=Ac e0;have g1:=Ac e1;have g2:=Ac e2;have g3:=Ac e3;have gc:=Ac c3;have go:=Ac o2;have hv:=aA_ w1;refine ab_ (by kernel_rfl) (by kernel_rfl) ?_
 repeat (go_big_quiet_step (first | (go_at_call 111;exact an_ (IA _ (Grw.h _)))))
 refine wpQuiet_nil ?_;intro wA hm;have hb:=ah_ hm;clear hm g0 g1 g2 g3 gc go hv IA;have C':=C.below hb;have D':=D.below hb;have O':=O.below hb;have hh:=RA.below hb;have hc:=Aa ha hb;have hC:=hb.size;clear c0 c1 c2 c3 c4 c5 o0 o1 o2 o3 x0 x1 x2 x3 x4 x5 f0 f1 f2 f3 f4 f5 C D O e0 e1 e2 e3 RA;obtain⟨c0,c1,c2,c3,c4,c5⟩:=C'.six';obtain⟨x0,x1,x2,x3,x4,x5⟩:=D'.six';obtain⟨f0,f1,f2,f3,f4,f5⟩:=fz6 D';have e2:wA.cell? ⟨vb,i*4+2,none⟩=some (.bool x.fx):=hh.cellAt (j:=2) hr rfl;have e3:wA.cell? ⟨vb,i*4+3,none⟩=some (.slice pa0 pn0 pc0):=hh.cellAt (j:=3) hr rfl;rw[ho.out] at e2;go_wp2;obtain⟨W8,hl,W0,hp⟩:=Ba D' (.int .i64 size) (.int .i64 next) (.slice ea en ec) (.slice (some ⟨vb,0,none⟩) vn vc) (.slice ra rn rc) (.slice la ln lc);have B8:=hc.grown hp hc.size (fun j e=>by cases e;omega);rw[<-hl];clear hl;refine YW (ad_ rfl _ W8 (w.heap.size+2) _ _ _ _ _ rfl W0 underlying28 rfl (by kernel_rfl) rfl) rfl ?_;exact⟨⟨_,6,rfl,bm_ _ _ _ _ _ _ _ _ _ _ _ _ _ _,by rw[hS.out],fun h=>absurd h (by omega)⟩,B8.mono hBw,FrV.of B8⟩
theorem cF_ (B:Nat)(hB0:0<B)(v:Value)(p:Po)(o:Opr)(w:World)(h:Ag B w v p)(hBw:B<=w.heap.size)(hd:AJ p)(hnx:1<=p.next∧p.next<=1000000000)(hk:o.k=4)(i:Nat)(hso:Bb p.vs o.vol=some i)(he:∀ x:Vo,p.vs[i]?=some x->x.fx=true)(j:Nat)(hg:∀ x:Vo,p.vs[i]?=some x->itI x.its o.file=some j):
  Calls prog 67 #[v,.agg #[.int .i64 o.k,.string o.vol,.string o.file,.string o.to,.string o.into,.int .i64 o.at',.int .i64 o.fr,.int .i64 o.ln,.string o.data]] w fun e w'=>(∃ v' c,e=.returned (.tuple #[v',.int .i64 c])∧Bn v'∧c=(AC p o).1∧(c=0->Ag B w' v' (AC p o).2))∧Below B w w'∧FrV w w':=by
 obtain⟨ea,en,ec,va,vn,vc,ra,rn,rc,la,ln,lc,rows,rfl,h1,⟨h2,h3⟩,h4,h5,h6⟩:=h;obtain⟨z1,z2,z3,z4,z5,z6,z7,z8⟩:=hd;have hV:Bp B w va vn p.vs:=h3.rows.vs h2;rw[hV.len] at z3;obtain⟨size,next,ex,vs,rf,lt⟩:=p;obtain⟨k,vol,file,tt,into,at0,fr,ln0,data⟩:=o;simp only at h1 h2 h3 h4 h5 hV z4 z3 hnx hk ⊢;have _:=hB0;have _:=hnx;have _:=hBw;have ht:vs.length=vn:=hV.len;have hw:rows.length=vn:=h2.sl.len;subst hk;simp only at hso;have hi:=ap_ hso;have hq:i<vn:=by omega
 have hx:vs[i]?=some vs[i]:=by simp[hi]
 have hA:(0:Int)<=(i:Int):=by omega
 have hs:(i:Int)<vn:=by omega
 obtain⟨m1,m2,m3⟩:=z4 _ (Zc hx);have hr:rows[i]?=some (rows[i]'(by omega)):=by simp[hw,hq]
 have VT:=h3.at' i _ _ hr hx;generalize rows[i]'(by omega)=r0 at *;generalize vs[i]=x at *;obtain⟨rid,rnm,rfx,pa0,pn0,pc0⟩:=r0;obtain⟨e1,e2,e3,irows,RI,TI⟩:=VT;simp only at e1 e2 e3 RI;subst e1 e2 e3;obtain⟨vb,rfl,hD,hy,hz⟩:=h2.addr (by omega);simp only at he hg;replace he:=he _ hx;have hf:=he;replace hg:=hg _ hx;have hn:Bw B w pa0 pn0 x.its:=TI.rows.its RI;rw[hn.len] at m2;have hS:Hid (AC ⟨size,next,ex,vs,rf,lt⟩ ⟨4,vol,file,tt,into,at0,fr,ln0,data⟩=(6,⟨size,next,ex,vs,rf,lt⟩)):=by show _=_;simp[AC,hso,hx,hf]
 generalize AC ⟨size,next,ex,vs,rf,lt⟩ ⟨4,vol,file,tt,into,at0,fr,ln0,data⟩=R at *;have ho:Hid (x.fx=true):=hf;clear hf he;go_enter func67,ntmps67
 go_wp2_with fail
 refine (ak_ B size next ea en ec (some ⟨vb,0,none⟩) vn vc ra rn rc la ln lc vs vol _ (hV.below (by go_grown)) z3).mono ?_;rintro e w1 ⟨rfl,hj⟩;obtain⟨C,O,D,ha,hB⟩:=bx3 hj;clear hj;obtain⟨c0,c1,c2,c3,c4,c5⟩:=C.six';have o0:w1.cell? ⟨w.heap.size+1,0,none⟩=some (.int .i64 4):=O.cell 0;have o1:w1.cell? ⟨w.heap.size+1,1,none⟩=some (.string vol):=O.cell 1;have o2:w1.cell? ⟨w.heap.size+1,2,none⟩=some (.string file):=O.cell 2;have o3:w1.cell? ⟨w.heap.size+1,3,none⟩=some (.string tt):=O.cell 3;obtain⟨x0,x1,x2,x3,x4,x5⟩:=D.six';obtain⟨f0,f1,f2,f3,f4,f5⟩:=fz6 D;rw[hso];simp only[BJ];have RA:=h2.below ha;have e0:w1.cell? ⟨vb,i*4,none⟩=some (.int .i64 x.id):=RA.cellAt (j:=0) hr rfl;have e1:w1.cell? ⟨vb,i*4+1,none⟩=some (.string x.nm):=RA.cellAt (j:=1) hr rfl;have e2:w1.cell? ⟨vb,i*4+2,none⟩=some (.bool x.fx):=RA.cellAt (j:=2) hr rfl;have e3:w1.cell? ⟨vb,i*4+3,none⟩=some (.slice pa0 pn0 pc0):=RA.cellAt (j:=3) hr rfl;have IA:=fun (u:World) (hu:Below w1.heap.size w1 u)=>cf_ B x.id x.nm x.fx pa0 pn0 pc0 x.its file u (((TI.below ha).below hu).rows.its ((RI.below ha).below hu)) m2;rw[hg] at IA;simp only[BJ] at IA
 go_wp2_with fail
 have g0:=Ac e0;have g1:=Ac e1;have g2:=Ac e2;have g3:=Ac e3;have gc:=Ac c3;have go:=Ac o2;have hv:=aA_ w1;refine ab_ (by kernel_rfl) (by kernel_rfl) ?_
 repeat (go_big_quiet_step (first | (go_at_call 111;exact an_ (IA _ (Grw.h _)))))
 refine wpQuiet_nil ?_;intro wA hm;have hb:=ah_ hm;clear hm g0 g1 g2 g3 gc go hv IA;have C':=C.below hb;have D':=D.below hb;have O':=O.below hb;have hh:=RA.below hb;have hc:=Aa ha hb;have hC:=hb.size;clear c0 c1 c2 c3 c4 c5 o0 o1 o2 o3 x0 x1 x2 x3 x4 x5 f0 f1 f2 f3 f4 f5 C D O e0 e1 e2 e3 RA;obtain⟨c0,c1,c2,c3,c4,c5⟩:=C'.six';obtain⟨x0,x1,x2,x3,x4,x5⟩:=D'.six';obtain⟨f0,f1,f2,f3,f4,f5⟩:=fz6 D';have e2:wA.cell? ⟨vb,i*4+2,none⟩=some (.bool x.fx):=hh.cellAt (j:=2) hr rfl;have e3:wA.cell? ⟨vb,i*4+3,none⟩=some (.slice pa0 pn0 pc0):=hh.cellAt (j:=3) hr rfl;rw[ho.out] at e2;go_wp2;obtain⟨W8,hl,W0,hp⟩:=Ba D' (.int .i64 size) (.int .i64 next) (.slice ea en ec) (.slice (some ⟨vb,0,none⟩) vn vc) (.slice ra rn rc) (.slice la ln lc);have B8:=hc.grown hp hc.size (fun j e=>by cases e;omega);rw[<-hl];clear hl;refine YW (ad_ rfl _ W8 (w.heap.size+2) _ _ _ _ _ rfl W0 underlying28 rfl (by kernel_rfl) rfl) rfl ?_;exact⟨⟨_,6,rfl,bm_ _ _ _ _ _ _ _ _ _ _ _ _ _ _,by rw[hS.out],fun h=>absurd h (by omega)⟩,B8.mono hBw,FrV.of B8⟩
theorem c5_ (B:Nat)(hB0:0<B)(v:Value)(p:Po)(o:Opr)(w:World)(h:Ag B w v p)(hBw:B<=w.heap.size)(hd:AJ p)(hnx:1<=p.next∧p.next<=1000000000)(hk:o.k=4)(i:Nat)(hso:Bb p.vs o.vol=some i)(he:∀ x:Vo,p.vs[i]?=some x->x.fx=false)(hg:∀ x:Vo,p.vs[i]?=some x->itI x.its o.file=none):
  Calls prog 67 #[v,.agg #[.int .i64 o.k,.string o.vol,.string o.file,.string o.to,.string o.into,.int .i64 o.at',.int .i64 o.fr,.int .i64 o.ln,.string o.data]] w fun e w'=>(∃ v' c,e=.returned (.tuple #[v',.int .i64 c])∧Bn v'∧c=(AC p o).1∧(c=0->Ag B w' v' (AC p o).2))∧Below B w w'∧FrV w w':=by
 obtain⟨ea,en,ec,va,vn,vc,ra,rn,rc,la,ln,lc,rows,rfl,h1,⟨h2,h3⟩,h4,h5,h6⟩:=h;obtain⟨z1,z2,z3,z4,z5,z6,z7,z8⟩:=hd;have hV:Bp B w va vn p.vs:=h3.rows.vs h2;rw[hV.len] at z3;obtain⟨size,next,ex,vs,rf,lt⟩:=p;obtain⟨k,vol,file,tt,into,at0,fr,ln0,data⟩:=o;simp only at h1 h2 h3 h4 h5 hV z4 z3 hnx hk ⊢;have _:=hB0;have _:=hnx;have _:=hBw;have ht:vs.length=vn:=hV.len;have hw:rows.length=vn:=h2.sl.len;subst hk;simp only at hso;have hi:=ap_ hso;have hq:i<vn:=by omega
 have hx:vs[i]?=some vs[i]:=by simp[hi]
 have hA:(0:Int)<=(i:Int):=by omega
 have hs:(i:Int)<vn:=by omega
 obtain⟨m1,m2,m3⟩:=z4 _ (Zc hx);have hr:rows[i]?=some (rows[i]'(by omega)):=by simp[hw,hq]
 have VT:=h3.at' i _ _ hr hx;generalize rows[i]'(by omega)=r0 at *;generalize vs[i]=x at *;obtain⟨rid,rnm,rfx,pa0,pn0,pc0⟩:=r0;obtain⟨e1,e2,e3,irows,RI,TI⟩:=VT;simp only at e1 e2 e3 RI;subst e1 e2 e3;obtain⟨vb,rfl,hD,hy,hz⟩:=h2.addr (by omega);simp only at he hg;replace he:=he _ hx;have hf:=he;replace hg:=hg _ hx;have hn:Bw B w pa0 pn0 x.its:=TI.rows.its RI;rw[hn.len] at m2;have hS:Hid (AC ⟨size,next,ex,vs,rf,lt⟩ ⟨4,vol,file,tt,into,at0,fr,ln0,data⟩=(3,⟨size,next,ex,vs,rf,lt⟩)):=by show _=_;simp[AC,hso,hx,hf,hg]
 generalize AC ⟨size,next,ex,vs,rf,lt⟩ ⟨4,vol,file,tt,into,at0,fr,ln0,data⟩=R at *;have ho:Hid (x.fx=false):=hf;clear hf he;go_enter func67,ntmps67
 go_wp2_with fail
 refine (ak_ B size next ea en ec (some ⟨vb,0,none⟩) vn vc ra rn rc la ln lc vs vol _ (hV.below (by go_grown)) z3).mono ?_;rintro e w1 ⟨rfl,hj⟩;obtain⟨C,O,D,ha,hB⟩:=bx3 hj;clear hj;obtain⟨c0,c1,c2,c3,c4,c5⟩:=C.six';have o0:w1.cell? ⟨w.heap.size+1,0,none⟩=some (.int .i64 4):=O.cell 0;have o1:w1.cell? ⟨w.heap.size+1,1,none⟩=some (.string vol):=O.cell 1;have o2:w1.cell? ⟨w.heap.size+1,2,none⟩=some (.string file):=O.cell 2;have o3:w1.cell? ⟨w.heap.size+1,3,none⟩=some (.string tt):=O.cell 3;obtain⟨x0,x1,x2,x3,x4,x5⟩:=D.six';obtain⟨f0,f1,f2,f3,f4,f5⟩:=fz6 D;rw[hso];simp only[BJ];have RA:=h2.below ha;have e0:w1.cell? ⟨vb,i*4,none⟩=some (.int .i64 x.id):=RA.cellAt (j:=0) hr rfl;have e1:w1.cell? ⟨vb,i*4+1,none⟩=some (.string x.nm):=RA.cellAt (j:=1) hr rfl;have e2:w1.cell? ⟨vb,i*4+2,none⟩=some (.bool x.fx):=RA.cellAt (j:=2) hr rfl;have e3:w1.cell? ⟨vb,i*4+3,none⟩=some (.slice pa0 pn0 pc0):=RA.cellAt (j:=3) hr rfl;have IA:=fun (u:World) (hu:Below w1.heap.size w1 u)=>cf_ B x.id x.nm x.fx pa0 pn0 pc0 x.its file u (((TI.below ha).below hu).rows.its ((RI.below ha).below hu)) m2;rw[hg] at IA;simp only[BJ] at IA
 go_wp2_with fail
 have g0:=Ac e0;have g1:=Ac e1;have g2:=Ac e2;have g3:=Ac e3;have gc:=Ac c3;have go:=Ac o2;have hv:=aA_ w1;refine ab_ (by kernel_rfl) (by kernel_rfl) ?_
 repeat (go_big_quiet_step (first | (go_at_call 111;exact an_ (IA _ (Grw.h _)))))
 refine wpQuiet_nil ?_;intro wA hm;have hb:=ah_ hm;clear hm g0 g1 g2 g3 gc go hv IA;have C':=C.below hb;have D':=D.below hb;have O':=O.below hb;have hh:=RA.below hb;have hc:=Aa ha hb;have hC:=hb.size;clear c0 c1 c2 c3 c4 c5 o0 o1 o2 o3 x0 x1 x2 x3 x4 x5 f0 f1 f2 f3 f4 f5 C D O e0 e1 e2 e3 RA;obtain⟨c0,c1,c2,c3,c4,c5⟩:=C'.six';obtain⟨x0,x1,x2,x3,x4,x5⟩:=D'.six';obtain⟨f0,f1,f2,f3,f4,f5⟩:=fz6 D';have e2:wA.cell? ⟨vb,i*4+2,none⟩=some (.bool x.fx):=hh.cellAt (j:=2) hr rfl;have e3:wA.cell? ⟨vb,i*4+3,none⟩=some (.slice pa0 pn0 pc0):=hh.cellAt (j:=3) hr rfl;rw[ho.out] at e2;go_wp2;obtain⟨W8,hl,W0,hp⟩:=Ba D' (.int .i64 size) (.int .i64 next) (.slice ea en ec) (.slice (some ⟨vb,0,none⟩) vn vc) (.slice ra rn rc) (.slice la ln lc);have B8:=hc.grown hp hc.size (fun j e=>by cases e;omega);rw[<-hl];clear hl;refine YW (ad_ rfl _ W8 (w.heap.size+2) _ _ _ _ _ rfl W0 underlying28 rfl (by kernel_rfl) rfl) rfl ?_;exact⟨⟨_,3,rfl,bm_ _ _ _ _ _ _ _ _ _ _ _ _ _ _,by rw[hS.out],fun h=>absurd h (by omega)⟩,B8.mono hBw,FrV.of B8⟩
theorem eG_ (B:Nat)(hB0:0<B)(v:Value)(p:Po)(o:Opr)(w:World)(h:Ag B w v p)(hBw:B<=w.heap.size)(hd:AJ p)(hnx:1<=p.next∧p.next<=1000000000)(hk:o.k=4)(i:Nat)(hso:Bb p.vs o.vol=some i)(ho:∀ x:Vo,p.vs[i]?=some x->x.fx=false)(j:Nat)(hl:∀ x:Vo,p.vs[i]?=some x->itI x.its o.file=some j):
  Calls prog 67 #[v,.agg #[.int .i64 o.k,.string o.vol,.string o.file,.string o.to,.string o.into,.int .i64 o.at',.int .i64 o.fr,.int .i64 o.ln,.string o.data]] w fun e w'=>(∃ v' c,e=.returned (.tuple #[v',.int .i64 c])∧Bn v'∧c=(AC p o).1∧(c=0->Ag B w' v' (AC p o).2))∧Below B w w'∧FrV w w':=by
 obtain⟨ea,en,ec,va,vn,vc,ra,rn,rc,la,ln,lc,rows,rfl,h1,⟨h2,h3⟩,h4,h5,h6⟩:=h;obtain⟨z1,z2,z3,z4,z5,z6,z7,z8⟩:=hd;have hV:Bp B w va vn p.vs:=h3.rows.vs h2;rw[hV.len] at z3;obtain⟨size,next,ex,vs,rf,lt⟩:=p;obtain⟨k,vol,file,tt,into,at0,fr,ln0,data⟩:=o;simp only at h1 h2 h3 h4 h5 hV z4 z3 hnx hk ⊢;have _:=hB0;have _:=hnx;have _:=hBw;have hJ:vs.length=vn:=hV.len;have hO:rows.length=vn:=h2.sl.len;subst hk;simp only at hso;have hi:=ap_ hso;have hH:i<vn:=by omega
 have hx:vs[i]?=some vs[i]:=by simp[hi]
 have h9:(0:Int)<=(i:Int):=by omega
 have hw:(i:Int)<vn:=by omega
 obtain⟨m1,m2,m3⟩:=z4 _ (Zc hx);have hr:rows[i]?=some (rows[i]'(by omega)):=by simp[hO,hH]
 have VT:=h3.at' i _ _ hr hx;generalize rows[i]'(by omega)=r0 at *;generalize vs[i]=x at *;obtain⟨rid,rnm,rfx,pa0,pn0,pc0⟩:=r0;obtain⟨e1,e2,e3,irows,RI,TI⟩:=VT;simp only at e1 e2 e3 RI;subst e1 e2 e3;obtain⟨vb,rfl,hP,hQ,hR⟩:=h2.addr (by omega);simp only at ho hl;replace ho:=ho _ hx;have hf:=ho;replace hl:=hl _ hx;have hz:Bw B w pa0 pn0 x.its:=TI.rows.its RI;have hI:=pZ_ hl;rw[hz.len] at hI;obtain⟨ib,rfl,h8,hM,hN⟩:=RI.addr (by omega);have qf:IntKind.i64.wrap ((j:Int)+1)=(j:Int)+1:=by rw[Ys];omega
 have hU:(j:Int)<=pc0:=by omega
 have hW:(j:Int)+1<=pn0:=by omega
 have hX:(pn0:Int)<=pc0:=by omega
 have hY:(0:Int)<=(j:Int)+1:=by omega
 have hZ:(j:Int)+1<=pc0:=by omega
 have h0:(0:Int)<=(j:Int):=by omega
 rw[hz.len] at m2;have hS:Hid (AC ⟨size,next,ex,vs,rf,lt⟩ ⟨4,vol,file,tt,into,at0,fr,ln0,data⟩=(0,⟨size,next,ex,vs.set i ⟨x.id,x.nm,x.fx,x.its.take j++x.its.drop (j+1)⟩,rf,lt⟩)):=by show _=_;simp[AC,hso,hx,hf,hl]
 generalize AC ⟨size,next,ex,vs,rf,lt⟩ ⟨4,vol,file,tt,into,at0,fr,ln0,data⟩=R at *;have hE:Hid (x.fx=false):=hf;clear hf ho;go_enter func67,ntmps67
 go_wp2_with fail
 refine (ak_ B size next ea en ec (some ⟨vb,0,none⟩) vn vc ra rn rc la ln lc vs vol _ (hV.below (by go_grown)) z3).mono ?_;rintro e w1 ⟨rfl,hy⟩;obtain⟨C,O,D,hg,qa⟩:=bx3 hy;clear hy;obtain⟨c0,c1,c2,c3,c4,c5⟩:=C.six';have o0:w1.cell? ⟨w.heap.size+1,0,none⟩=some (.int .i64 4):=O.cell 0;have o1:w1.cell? ⟨w.heap.size+1,1,none⟩=some (.string vol):=O.cell 1;have o2:w1.cell? ⟨w.heap.size+1,2,none⟩=some (.string file):=O.cell 2;have o3:w1.cell? ⟨w.heap.size+1,3,none⟩=some (.string tt):=O.cell 3;obtain⟨x0,x1,x2,x3,x4,x5⟩:=D.six';obtain⟨f0,f1,f2,f3,f4,f5⟩:=fz6 D;rw[hso];simp only[BJ];have RA:=h2.below hg;have e0:w1.cell? ⟨vb,i*4,none⟩=some (.int .i64 x.id):=RA.cellAt (j:=0) hr rfl;have e1:w1.cell? ⟨vb,i*4+1,none⟩=some (.string x.nm):=RA.cellAt (j:=1) hr rfl;have e2:w1.cell? ⟨vb,i*4+2,none⟩=some (.bool x.fx):=RA.cellAt (j:=2) hr rfl;have e3:w1.cell? ⟨vb,i*4+3,none⟩=some (.slice (some ⟨ib,0,none⟩) pn0 pc0):=RA.cellAt (j:=3) hr rfl;have IA:=fun (u:World) (hu:Below w1.heap.size w1 u)=>cf_ B x.id x.nm x.fx (some ⟨ib,0,none⟩) pn0 pc0 x.its file u (((TI.below hg).below hu).rows.its ((RI.below hg).below hu)) m2;rw[hl] at IA;simp only[BJ] at IA
 go_wp2_with fail
 have g0:=Ac e0;have g1:=Ac e1;have g2:=Ac e2;have g3:=Ac e3;have gc:=Ac c3;have go:=Ac o2;have hp:=aA_ w1;refine ab_ (by kernel_rfl) (by kernel_rfl) ?_
 repeat (go_big_quiet_step (first | (go_at_call 111;exact an_ (IA _ (Grw.h _)))))
 refine wpQuiet_nil ?_;intro wA hB;have hj:=ah_ hB;clear hB g0 g1 g2 g3 gc go hp IA;have C':=C.below hj;have D':=D.below hj;have O':=O.below hj;have hs:=RA.below hj;have hm:=Aa hg hj;have qe:=hj.size;clear c0 c1 c2 c3 c4 c5 o0 o1 o2 o3 x0 x1 x2 x3 x4 x5 f0 f1 f2 f3 f4 f5 C D O e0 e1 e2 e3 RA;obtain⟨c0,c1,c2,c3,c4,c5⟩:=C'.six';obtain⟨x0,x1,x2,x3,x4,x5⟩:=D'.six';obtain⟨f0,f1,f2,f3,f4,f5⟩:=fz6 D';have e2:wA.cell? ⟨vb,i*4+2,none⟩=some (.bool x.fx):=hs.cellAt (j:=2) hr rfl;have e3:wA.cell? ⟨vb,i*4+3,none⟩=some (.slice (some ⟨ib,0,none⟩) pn0 pc0):=hs.cellAt (j:=3) hr rfl;rw[hE.out] at e2;have RIA:=RI.below hm;have h7:((i:Int)<vn):=hw
 go_wp2_with fail
 have hn:∀ u,Below wA.heap.size wA u->(fun u=>u.cell? ⟨w.heap.size,3,none⟩=some (.slice (some ⟨vb,0,none⟩) vn vc)) u:=fun u hu=>Ab hu c3;have hT:=hn wA.drew ((Yg _ _).drew);refine ar_ (S:=(fun u=>u.cell? ⟨w.heap.size,3,none⟩=some (.slice (some ⟨vb,0,none⟩) vn vc))) 15 (by kernel_rfl) (by kernel_rfl) ?_;refine tk 0 ?_;refine tk 1 ?_;refine tk 2 ?_;refine tk 4 ?_;refine tk 5 ?_;refine tk 6 ?_;refine tk 8 ?_;refine tk 9 ?_;refine tk 10 ?_;refine tk 11 ?_;refine Aq (i:=3) (by kernel_rfl) rfl (fun K hK=>?_);go_simp;refine hK.out _ _ (hn _ (by go_grown)) (fun hHeld=>?_);clear hK K
 try simp only[Act.put,lsA,lsB,lsC]
 refine Aq (i:=7) (by kernel_rfl) rfl (fun K hK=>?_);have hL:Below wA.heap.size wA (wA.drew.alloc (.cells #[] 122)):=Aa ((Yg _ _).drew) (by go_grown);refine aJ_ rfl (g4_ _ _ rfl wA.heap.size _ 0 0 [] rfl (aw_ (Blk.new' _ _ _ _ (by simp)) (by simp)) (some ⟨ib,0,none⟩) j pc0 (irows.take j) rfl (RIA.sl.below hL |>.take (by omega)) (fun ad h=>(by cases h;rfl)) (fun h=>(by cases h)) j (Zq _) (by omega) (by simp) ?_);intro a3 cap3 w3 R3 hF;have hq:Below wA.heap.size wA w3:=Yi hL hF (by have:=hL.size;omega) (fun j e=>by simp[Value.ownBlock] at e;omega);rw[ZM] at R3;have qc:=hq.size;refine hK.out _ _ (hn _ hq) (fun hHeld=>?_);clear hK K
 try simp only[Act.put,lsA,lsB,lsC]
 refine Aq (i:=12) (by kernel_rfl) rfl (fun K hK=>?_);refine aJ_ rfl (g4_ _ _ rfl wA.heap.size a3 j cap3 (irows.take j) rfl R3 (if pc0=j+1 then some ⟨ib,0,none⟩ else some ⟨ib,(j+1)*2,none⟩) (pn0-(j+1)) (pc0-(j+1)) (irows.drop (j+1)) rfl (by have:=oo_ (RIA.sl.below hq) (j+1) pc0 (by omega) (by omega);simpa only[Zq] using this) (fun ad h=>(by split at h<;>(cases h;rfl))) (fun h=>(by split at h<;>cases h)) (pn0-1) (by omega) (by omega) (by omega) ?_);intro a4 cap4 w4 R4 hG;have hh:Below wA.heap.size wA w4:=Yi hq hG (by omega) (aG_ fun ad hD=>(R3.block ad hD).1);have qd:=hh.size;refine hK.out _ _ (hn _ hh) (fun hHeld=>?_);clear hK K
 try simp only[Act.put,lsA,lsB,lsC]
 refine tk 13 ?_;refine tk 14 ?_;refine wpAnyH_done (by kernel_rfl) ?_ _;refine lastL rfl ?_;have ha:=Aa hm hh;have ht:=hs.below hh;obtain⟨vcs,VB⟩:=ht.blkAt;have fz:=VB.frozen (i*4+3);have v3:=Ab hh e3;have hc:=CS w4 vb (i*4+3) (.slice a4 (pn0-1) cap4);have he:BF w4 (some vb) 80:=aa_ VB;have R1:Ad vrs 4 80 (w4.setCell ⟨vb,i*4+3,none⟩ (.slice a4 (pn0-1) cap4)) B (some ⟨vb,0,none⟩) vn vc (rows.set i ⟨x.id,x.nm,x.fx,a4,pn0-1,cap4⟩):=Ad.set1 a2_ ht hr (by omega) rfl;have T1:=((h3.below ha).ty hc he (by decide) (by decide)).set i (show CE B _ ⟨x.id,x.nm,x.fx,a4,pn0-1,cap4⟩ ⟨x.id,x.nm,x.fx,x.its.take j++x.its.drop (j+1)⟩ from ⟨rfl,rfl,rfl,irows.take j++irows.drop (j+1),(R4.ty hc he (by decide)).mono (by omega),((TI.below ha).cut j).ty hc he (by decide)⟩);have C2:=(C'.below hh).ty hc he (by decide);have D2:=(D'.below hh).ty hc he (by decide);have P2:Ag B (w4.setCell ⟨vb,i*4+3,none⟩ (.slice a4 (pn0-1) cap4)) (.agg #[.int .i64 size,.int .i64 next,.slice ea en ec,.slice (some ⟨vb,0,none⟩) vn vc,.slice ra rn rc,.slice la ln lc]) ⟨size,next,ex,vs.set i ⟨x.id,x.nm,x.fx,x.its.take j++x.its.drop (j+1)⟩,rf,lt⟩:=⟨ea,en,ec,some ⟨vb,0,none⟩,vn,vc,ra,rn,rc,la,ln,lc,_,rfl,(h1.below ha).ty hc he (by decide),⟨R1,T1⟩,(h4.below ha).ty hc he (by decide),(h5.below ha).ty hc he (by decide),h6⟩;obtain⟨y0,y1,y2,y3,y4,y5⟩:=C2.six';obtain⟨q0,q1,q2,q3,q4,q5⟩:=D2.six';obtain⟨m0,m1,m2,m3,m4,m5⟩:=fz6 D2;have hC:=(ha.mono hBw).grown hc (by omega) (fun j e=>by cases e;exact hP);have qb:=hc.size;have FT0:Hid (FrV w (w4.setCell ⟨vb,i*4+3,none⟩ (.slice a4 (pn0-1) cap4))):=fun k c t hb hp=>(hb.below ha).ty hc he hp;clear R1 T1 hc ht VB he hj hn;go_wp2
 all_goals (
  obtain⟨W8,hA,W0,hv⟩:=Ba D2 (.int .i64 size) (.int .i64 next) (.slice ea en ec) (.slice (some ⟨vb,0,none⟩) vn vc) (.slice ra rn rc) (.slice la ln lc);have PF:=P2.tyP hv (aa_ D2);have B8:=hC.grown hv (by omega) (fun j e=>by cases e;omega);have FT:=fun (k:Nat) (c:Array Value) (t:TypeId) (hb:Blk w k c t) (hp:t≠80)=>(FT0.out k c t hb hp).offB hv (B:=w.heap.size) (fun j e=>by cases e;omega) hb.lt;rw[<-hA];clear hA;refine YW (ad_ rfl _ W8 (w.heap.size+2) _ _ _ _ _ rfl W0 underlying28 rfl (by kernel_rfl) rfl) rfl ?_;exact⟨⟨_,0,rfl,bm_ _ _ _ _ _ _ _ _ _ _ _ _ _ _,by rw[hS.out],fun _=>by rw[hS.out];exact PF⟩,B8,FT⟩)
theorem fk_ (B:Nat)(hB0:0<B)(v:Value)(p:Po)(o:Opr)(w:World)(h:Ag B w v p)(hBw:B<=w.heap.size)(hd:AJ p)(hnx:1<=p.next∧p.next<=1000000000)(hk:o.k=1∨o.k=4∨o.k=6∨o.k=7∨o.k=8):
  Calls prog 67 #[v,.agg #[.int .i64 o.k,.string o.vol,.string o.file,.string o.to,.string o.into,.int .i64 o.at',.int .i64 o.fr,.int .i64 o.ln,.string o.data]] w fun e w'=>(∃ v' c,e=.returned (.tuple #[v',.int .i64 c])∧Bn v'∧c=(AC p o).1∧(c=0->Ag B w' v' (AC p o).2))∧Below B w w'∧FrV w w':=by
 cases ha:Bb p.vs o.vol with
 |none=>
  by_cases h1:o.k=1
  ·exact ft_ B hB0 v p o w h hBw hd hnx h1 ha
  ·exact fs_ B hB0 v p o w h hBw hd hnx h1 ha
 |some i=>
  have hx:p.vs[i]?=some (p.vs[i]'(ap_ ha)):=by simp[ap_ ha]
  rcases hk with h1 | h1 | h1 | h1 | h1
  ·exact eZ_ B hB0 v p o w h hBw hd hnx h1 i ha
  ·cases hf:(p.vs[i]'(ap_ ha)).fx with
   |true=>
    cases hb:itI (p.vs[i]'(ap_ ha)).its o.file with
    |none=>exact cA_ B hB0 v p o w h hBw hd hnx h1 i ha (fun x e=>by rw[hx] at e;cases e;exact hf) (fun x e=>by rw[hx] at e;cases e;exact hb)
    |some j=>exact cF_ B hB0 v p o w h hBw hd hnx h1 i ha (fun x e=>by rw[hx] at e;cases e;exact hf) j (fun x e=>by rw[hx] at e;cases e;exact hb)
   |false=>
    cases hb:itI (p.vs[i]'(ap_ ha)).its o.file with
    |none=>exact c5_ B hB0 v p o w h hBw hd hnx h1 i ha (fun x e=>by rw[hx] at e;cases e;exact hf) (fun x e=>by rw[hx] at e;cases e;exact hb)
    |some j=>exact eG_ B hB0 v p o w h hBw hd hnx h1 i ha (fun x e=>by rw[hx] at e;cases e;exact hf) j (fun x e=>by rw[hx] at e;cases e;exact hb)
  ·cases hc:Bb p.vs o.to with
   |none=>exact fu_ B hB0 v p o w h hBw hd hnx h1 i ha hc
   |some j=>exact de_ B hB0 v p o w h hBw hd hnx h1 i j ha hc
  ·exact fB_ B hB0 v p o w h hBw hd hnx h1 i ha
  ·cases hf:(p.vs[i]'(ap_ ha)).fx with
   |true=>exact e0_ B hB0 v p o w h hBw hd hnx h1 i ha (fun x e=>by rw[hx] at e;cases e;exact hf)
   |false=>exact fT_ B hB0 v p o w h hBw hd hnx h1 i ha (fun x e=>by rw[hx] at e;cases e;exact hf)
theorem gt_ (B:Nat)(hB0:0<B)(v:Value)(p:Po)(o:Opr)(w:World)(h:Ag B w v p)(hNn:NnE v)(hBw:B<=w.heap.size)(hd:AJ p)(hp:Ap p=true)(hk:o.k≠5)(hso:Bb p.vs o.vol=none):
  Calls prog 66 #[v,.agg #[.int .i64 o.k,.string o.vol,.string o.file,.string o.to,.string o.into,.int .i64 o.at',.int .i64 o.fr,.int .i64 o.ln,.string o.data]] w fun e w'=>(∃ v' c,e=.returned (.tuple #[v',.int .i64 c])∧Bn v'∧c=(Ak p o).1∧(c=0->Ag B w' v' (Ak p o).2∧(Ai p o).2.2.length<=1000))∧Below B w w'∧FrV w w':=by
 have hf:=h.at';obtain⟨ea,en,ec,va,vn,vc,ra,rn,rc,la,ln,lc,rows,rfl,h1,⟨h2,h3⟩,h4,h5,h6⟩:=h;have hj:=hd;obtain⟨z1,z2,z3,z4,z5,z6,z7,z8⟩:=hd;have hV:Bp B w va vn p.vs:=h3.rows.vs h2;rw[hV.len] at z3;obtain⟨size,next,ex,vs,rf,lt⟩:=p;obtain⟨k,vol,file,tt,into,at0,fr,ln0,data⟩:=o;simp only at h1 h2 h3 h4 h5 hV z4 z3 hf hp hk ⊢;have _:=hB0;have _:=hNn;have _:=hBw;have _:=hp;have hh:vs.length=vn:=hV.len;have hm:rows.length=vn:=h2.sl.len;simp only at hso;have hl:(k==5)=false:=ZV.2 hk;have hS:Hid (Ak ⟨size,next,ex,vs,rf,lt⟩ ⟨k,vol,file,tt,into,at0,fr,ln0,data⟩=(3,⟨size,next,ex,vs,rf,lt⟩)):=by show _=_;simp[Ak,hso,hk]
 generalize hc:Ai ⟨size,next,ex,vs,rf,lt⟩ ⟨k,vol,file,tt,into,at0,fr,ln0,data⟩=PS at *;replace hc:Hid (Ai ⟨size,next,ex,vs,rf,lt⟩ ⟨k,vol,file,tt,into,at0,fr,ln0,data⟩=PS):=hc;generalize Ak ⟨size,next,ex,vs,rf,lt⟩ ⟨k,vol,file,tt,into,at0,fr,ln0,data⟩=R at *;go_enter func66,ntmps66
 go_wp2_with fail
 refine (ak_ B size next ea en ec va vn vc ra rn rc la ln lc vs vol _ (hV.below (by go_grown)) z3).mono ?_;rintro e w1 ⟨rfl,hb⟩;obtain⟨C,O,D,ha,hn⟩:=bx3 hb;clear hb;rw[hso];simp only[BJ];obtain⟨c0,c1,c2,c3,c4,c5⟩:=C.six';obtain⟨o0,o1,o2,o3,o4,o5,o6,o7,o8⟩:=ce9 O;obtain⟨x0,x1,x2,x3,x4,x5⟩:=D.six';obtain⟨f0,f1,f2,f3,f4,f5⟩:=fz6 D;go_wp2;obtain⟨W8,he,W0,hg⟩:=Ba D (.int .i64 size) (.int .i64 next) (.slice ea en ec) (.slice va vn vc) (.slice ra rn rc) (.slice la ln lc);have B8:=ha.grown hg ha.size (fun j e=>by cases e;omega);rw[<-he];clear he;refine YW (ad_ rfl _ W8 (w.heap.size+2) _ _ _ _ _ rfl W0 underlying28 rfl (by kernel_rfl) rfl) rfl ?_;exact⟨⟨_,3,rfl,bm_ _ _ _ _ _ _ _ _ _ _ _ _ _ _,by rw[hS.out],fun h=>absurd h (by omega)⟩,B8.mono hBw,FrV.of B8⟩
theorem f2_ (B:Nat)(hB0:0<B)(v:Value)(p:Po)(o:Opr)(w:World)(h:Ag B w v p)(hNn:NnE v)(hBw:B<=w.heap.size)(hd:AJ p)(hp:Ap p=true)(hk:o.k≠5)(i:Nat)(hso:Bb p.vs o.vol=some i)(hfx:∀ x:Vo,p.vs[i]?=some x->x.fx=true):
  Calls prog 66 #[v,.agg #[.int .i64 o.k,.string o.vol,.string o.file,.string o.to,.string o.into,.int .i64 o.at',.int .i64 o.fr,.int .i64 o.ln,.string o.data]] w fun e w'=>(∃ v' c,e=.returned (.tuple #[v',.int .i64 c])∧Bn v'∧c=(Ak p o).1∧(c=0->Ag B w' v' (Ak p o).2∧(Ai p o).2.2.length<=1000))∧Below B w w'∧FrV w w':=by
 have hg:=h.at';obtain⟨ea,en,ec,va,vn,vc,ra,rn,rc,la,ln,lc,rows,rfl,h1,⟨h2,h3⟩,h4,h5,h6⟩:=h;have hs:=hd;obtain⟨z1,z2,z3,z4,z5,z6,z7,z8⟩:=hd;have hV:Bp B w va vn p.vs:=h3.rows.vs h2;rw[hV.len] at z3;obtain⟨size,next,ex,vs,rf,lt⟩:=p;obtain⟨k,vol,file,tt,into,at0,fr,ln0,data⟩:=o;simp only at h1 h2 h3 h4 h5 hV z4 z3 hg hp hk ⊢;have _:=hB0;have _:=hNn;have _:=hBw;have _:=hp;have hm:vs.length=vn:=hV.len;have hn:rows.length=vn:=h2.sl.len;simp only at hso hfx;have hu:(k==5)=false:=ZV.2 hk;have hi:=ap_ hso;have hj:i<vn:=by omega
 have hx:vs[i]?=some vs[i]:=by simp[hi]
 have ht:(0:Int)<=(i:Int):=by omega
 have hl:(i:Int)<vn:=by omega
 have hr:rows[i]?=some (rows[i]'(by omega)):=by simp[hn,hj]
 have VT:=h3.at' i _ _ hr hx;generalize rows[i]'(by omega)=r0 at *;generalize vs[i]=x at *;obtain⟨rid,rnm,rfx,pa0,pn0,pc0⟩:=r0;obtain⟨e1,e2,e3,irows,RI,TI⟩:=VT;simp only at e1 e2 e3 RI;subst e1 e2 e3;obtain⟨vb,rfl,hw,ho,hq⟩:=h2.addr (by omega);have hf:=hfx _ hx;clear hfx;have hS:Hid (Ak ⟨size,next,ex,vs,rf,lt⟩ ⟨k,vol,file,tt,into,at0,fr,ln0,data⟩=(6,⟨size,next,ex,vs,rf,lt⟩)):=by show _=_;simp[Ak,hso,hx,hf,hk]
 generalize hc:Ai ⟨size,next,ex,vs,rf,lt⟩ ⟨k,vol,file,tt,into,at0,fr,ln0,data⟩=PS at *;replace hc:Hid (Ai ⟨size,next,ex,vs,rf,lt⟩ ⟨k,vol,file,tt,into,at0,fr,ln0,data⟩=PS):=hc;generalize Ak ⟨size,next,ex,vs,rf,lt⟩ ⟨k,vol,file,tt,into,at0,fr,ln0,data⟩=R at *;go_enter func66,ntmps66
 go_wp2_with fail
 refine (ak_ B size next ea en ec (some ⟨vb,0,none⟩) vn vc ra rn rc la ln lc vs vol _ (hV.below (by go_grown)) z3).mono ?_;rintro e w1 ⟨rfl,hb⟩;obtain⟨C,O,D,ha,hv⟩:=bx3 hb;clear hb;rw[hso];simp only[BJ];obtain⟨c0,c1,c2,c3,c4,c5⟩:=C.six';obtain⟨o0,o1,o2,o3,o4,o5,o6,o7,o8⟩:=ce9 O;obtain⟨x0,x1,x2,x3,x4,x5⟩:=D.six';obtain⟨f0,f1,f2,f3,f4,f5⟩:=fz6 D;have RA:=h2.below ha;have e2:w1.cell? ⟨vb,i*4+2,none⟩=some (.bool x.fx):=RA.cellAt (j:=2) hr rfl;rw[hf] at e2;go_wp2;obtain⟨W8,he,W0,hh⟩:=Ba D (.int .i64 size) (.int .i64 next) (.slice ea en ec) (.slice (some ⟨vb,0,none⟩) vn vc) (.slice ra rn rc) (.slice la ln lc);have B8:=ha.grown hh ha.size (fun j e=>by cases e;omega);rw[<-he];clear he;refine YW (ad_ rfl _ W8 (w.heap.size+2) _ _ _ _ _ rfl W0 underlying28 rfl (by kernel_rfl) rfl) rfl ?_;exact⟨⟨_,6,rfl,bm_ _ _ _ _ _ _ _ _ _ _ _ _ _ _,by rw[hS.out],fun h=>absurd h (by omega)⟩,B8.mono hBw,FrV.of B8⟩
theorem f3_ (B:Nat)(hB0:0<B)(v:Value)(p:Po)(o:Opr)(w:World)(h:Ag B w v p)(hNn:NnE v)(hBw:B<=w.heap.size)(hd:AJ p)(hp:Ap p=true)(hk:o.k=5)(hso:Bb p.vs o.to=none):
  Calls prog 66 #[v,.agg #[.int .i64 o.k,.string o.vol,.string o.file,.string o.to,.string o.into,.int .i64 o.at',.int .i64 o.fr,.int .i64 o.ln,.string o.data]] w fun e w'=>(∃ v' c,e=.returned (.tuple #[v',.int .i64 c])∧Bn v'∧c=(Ak p o).1∧(c=0->Ag B w' v' (Ak p o).2∧(Ai p o).2.2.length<=1000))∧Below B w w'∧FrV w w':=by
 have hf:=h.at';obtain⟨ea,en,ec,va,vn,vc,ra,rn,rc,la,ln,lc,rows,rfl,h1,⟨h2,h3⟩,h4,h5,h6⟩:=h;have hj:=hd;obtain⟨z1,z2,z3,z4,z5,z6,z7,z8⟩:=hd;have hV:Bp B w va vn p.vs:=h3.rows.vs h2;rw[hV.len] at z3;obtain⟨size,next,ex,vs,rf,lt⟩:=p;obtain⟨k,vol,file,tt,into,at0,fr,ln0,data⟩:=o;simp only at h1 h2 h3 h4 h5 hV z4 z3 hf hp hk ⊢;have _:=hB0;have _:=hNn;have _:=hBw;have _:=hp;have hh:vs.length=vn:=hV.len;have hl:rows.length=vn:=h2.sl.len;simp only at hso;subst hk;have hS:Hid (Ak ⟨size,next,ex,vs,rf,lt⟩ ⟨5,vol,file,tt,into,at0,fr,ln0,data⟩=(3,⟨size,next,ex,vs,rf,lt⟩)):=by show _=_;simp[Ak,hso]
 generalize hc:Ai ⟨size,next,ex,vs,rf,lt⟩ ⟨5,vol,file,tt,into,at0,fr,ln0,data⟩=PS at *;replace hc:Hid (Ai ⟨size,next,ex,vs,rf,lt⟩ ⟨5,vol,file,tt,into,at0,fr,ln0,data⟩=PS):=hc;generalize Ak ⟨size,next,ex,vs,rf,lt⟩ ⟨5,vol,file,tt,into,at0,fr,ln0,data⟩=R at *;go_enter func66,ntmps66
 go_wp2_with fail
 refine (ak_ B size next ea en ec va vn vc ra rn rc la ln lc vs tt _ (hV.below (by go_grown)) z3).mono ?_;rintro e w1 ⟨rfl,hb⟩;obtain⟨C,O,D,ha,hm⟩:=bx3 hb;clear hb;rw[hso];simp only[BJ];obtain⟨c0,c1,c2,c3,c4,c5⟩:=C.six';obtain⟨o0,o1,o2,o3,o4,o5,o6,o7,o8⟩:=ce9 O;obtain⟨x0,x1,x2,x3,x4,x5⟩:=D.six';obtain⟨f0,f1,f2,f3,f4,f5⟩:=fz6 D;go_wp2;obtain⟨W8,he,W0,hg⟩:=Ba D (.int .i64 size) (.int .i64 next) (.slice ea en ec) (.slice va vn vc) (.slice ra rn rc) (.slice la ln lc);have B8:=ha.grown hg ha.size (fun j e=>by cases e;omega);rw[<-he];clear he;refine YW (ad_ rfl _ W8 (w.heap.size+2) _ _ _ _ _ rfl W0 underlying28 rfl (by kernel_rfl) rfl) rfl ?_;exact⟨⟨_,3,rfl,bm_ _ _ _ _ _ _ _ _ _ _ _ _ _ _,by rw[hS.out],fun h=>absurd h (by omega)⟩,B8.mono hBw,FrV.of B8⟩
theorem fC_ (B:Nat)(hB0:0<B)(v:Value)(p:Po)(o:Opr)(w:World)(h:Ag B w v p)(hNn:NnE v)(hBw:B<=w.heap.size)(hd:AJ p)(hp:Ap p=true)(hk:o.k=5)(i:Nat)(hso:Bb p.vs o.to=some i)(hfx:∀ x:Vo,p.vs[i]?=some x->x.fx=true):
  Calls prog 66 #[v,.agg #[.int .i64 o.k,.string o.vol,.string o.file,.string o.to,.string o.into,.int .i64 o.at',.int .i64 o.fr,.int .i64 o.ln,.string o.data]] w fun e w'=>(∃ v' c,e=.returned (.tuple #[v',.int .i64 c])∧Bn v'∧c=(Ak p o).1∧(c=0->Ag B w' v' (Ak p o).2∧(Ai p o).2.2.length<=1000))∧Below B w w'∧FrV w w':=by
 have hg:=h.at';obtain⟨ea,en,ec,va,vn,vc,ra,rn,rc,la,ln,lc,rows,rfl,h1,⟨h2,h3⟩,h4,h5,h6⟩:=h;have hs:=hd;obtain⟨z1,z2,z3,z4,z5,z6,z7,z8⟩:=hd;have hV:Bp B w va vn p.vs:=h3.rows.vs h2;rw[hV.len] at z3;obtain⟨size,next,ex,vs,rf,lt⟩:=p;obtain⟨k,vol,file,tt,into,at0,fr,ln0,data⟩:=o;simp only at h1 h2 h3 h4 h5 hV z4 z3 hg hp hk ⊢;have _:=hB0;have _:=hNn;have _:=hBw;have _:=hp;have hm:vs.length=vn:=hV.len;have hn:rows.length=vn:=h2.sl.len;simp only at hso hfx;subst hk;have hi:=ap_ hso;have hj:i<vn:=by omega
 have hx:vs[i]?=some vs[i]:=by simp[hi]
 have ht:(0:Int)<=(i:Int):=by omega
 have hl:(i:Int)<vn:=by omega
 have hr:rows[i]?=some (rows[i]'(by omega)):=by simp[hn,hj]
 have VT:=h3.at' i _ _ hr hx;generalize rows[i]'(by omega)=r0 at *;generalize vs[i]=x at *;obtain⟨rid,rnm,rfx,pa0,pn0,pc0⟩:=r0;obtain⟨e1,e2,e3,irows,RI,TI⟩:=VT;simp only at e1 e2 e3 RI;subst e1 e2 e3;obtain⟨vb,rfl,hv,ho,hq⟩:=h2.addr (by omega);have hf:=hfx _ hx;clear hfx;have hS:Hid (Ak ⟨size,next,ex,vs,rf,lt⟩ ⟨5,vol,file,tt,into,at0,fr,ln0,data⟩=(6,⟨size,next,ex,vs,rf,lt⟩)):=by show _=_;simp[Ak,hso,hx,hf]
 generalize hc:Ai ⟨size,next,ex,vs,rf,lt⟩ ⟨5,vol,file,tt,into,at0,fr,ln0,data⟩=PS at *;replace hc:Hid (Ai ⟨size,next,ex,vs,rf,lt⟩ ⟨5,vol,file,tt,into,at0,fr,ln0,data⟩=PS):=hc;generalize Ak ⟨size,next,ex,vs,rf,lt⟩ ⟨5,vol,file,tt,into,at0,fr,ln0,data⟩=R at *;go_enter func66,ntmps66
 go_wp2_with fail
 refine (ak_ B size next ea en ec (some ⟨vb,0,none⟩) vn vc ra rn rc la ln lc vs tt _ (hV.below (by go_grown)) z3).mono ?_;rintro e w1 ⟨rfl,hb⟩;obtain⟨C,O,D,ha,hu⟩:=bx3 hb;clear hb;rw[hso];simp only[BJ];obtain⟨c0,c1,c2,c3,c4,c5⟩:=C.six';obtain⟨o0,o1,o2,o3,o4,o5,o6,o7,o8⟩:=ce9 O;obtain⟨x0,x1,x2,x3,x4,x5⟩:=D.six';obtain⟨f0,f1,f2,f3,f4,f5⟩:=fz6 D;have RA:=h2.below ha;have e2:w1.cell? ⟨vb,i*4+2,none⟩=some (.bool x.fx):=RA.cellAt (j:=2) hr rfl;rw[hf] at e2;go_wp2;obtain⟨W8,he,W0,hh⟩:=Ba D (.int .i64 size) (.int .i64 next) (.slice ea en ec) (.slice (some ⟨vb,0,none⟩) vn vc) (.slice ra rn rc) (.slice la ln lc);have B8:=ha.grown hh ha.size (fun j e=>by cases e;omega);rw[<-he];clear he;refine YW (ad_ rfl _ W8 (w.heap.size+2) _ _ _ _ _ rfl W0 underlying28 rfl (by kernel_rfl) rfl) rfl ?_;exact⟨⟨_,6,rfl,bm_ _ _ _ _ _ _ _ _ _ _ _ _ _ _,by rw[hS.out],fun h=>absurd h (by omega)⟩,B8.mono hBw,FrV.of B8⟩
structure He (w:World)(B:Nat)(a2:Option Addr)(id:Int)(nm:ByteArray)(fx:Bool)(ia:Option Addr)(inn icp:Nat)(name:ByteArray)(pa:Option Addr)(pn pc:Nat)(wr:World):Prop where
 ne:∀ ad,a2=some ad->ad.block≠w.heap.size+3
 b0:Blk wr w.heap.size #[.int .i64 id,.string nm,.bool fx,.slice ia inn icp] 80
 b1:Blk wr (w.heap.size+1) #[.int .i64 0,.string ⟨#[]⟩,.bool false,.slice none 0 0] 80
 b3:Blk wr (w.heap.size+3) #[.string name,.slice pa pn pc] 122
 sz:w.heap.size+4<=wr.heap.size
 bl:Below w.heap.size w wr
theorem He.app {w:World}{a3:Option Addr}{id:Int}{nm:ByteArray}{fx:Bool}{ia:Option Addr}{inn icp:Nat}{name:ByteArray}{pa:Option Addr}{pn pc:Nat}{ob:Obj}
  (E:He w B a2 id nm fx ia inn icp name pa pn pc wr)(R:Ad irs 2 122 wr (w.heap.size+2) a2 n2 cap2 rows)(hg:(wr.alloc ob).grownBy w3 (Value.ownBlock (.slice a2 n2 cap2)))(hp:∀ ad',a3=some ad'->(∃ ad,a2=some ad∧ad.block=ad'.block)∨(wr.alloc ob).heap.size<=ad'.block):
  He w B a3 id nm fx ia inn icp name pa pn pc w3:=by
 have hb:∀ j,Value.ownBlock (.slice a2 n2 cap2)=some j->w.heap.size+2<=j:=aG_ fun ad ha=>(R.block ad ha).1;have hc:=E.sz;have hs:=hg.size;have ht:=(R.alloc ob).rowTy (m:=n2) (k:=cap2);simp only[YN] at hs hp;refine⟨fun ad' e=>?_,(E.b0.alloc ob).ty hg ht (by decide),(E.b1.alloc ob).ty hg ht (by decide),?_,by omega,Yi (E.bl.alloc E.bl.size _) hg (by simp;omega) (fun j e=>by have:=hb j e;omega)⟩
 ·rcases hp ad' e with⟨ad,h1,h2⟩ | h1
  ·rw[<-h2];exact E.ne ad h1
  ·omega
 ·refine (hg.block _ (E.b3.alloc ob).lt (fun e=>?_)).trans (E.b3.alloc ob)
  cases a2 with
  |none=>simp[Value.ownBlock] at e
  |some ad=>simp[Value.ownBlock] at e;exact E.ne ad rfl e.symm
theorem A3.app {ob:Obj}(T:A3 B wr rows l)(V:Ec B wr r y)(R:Ad irs 2 122 wr b2 a2 n2 cap2 rows2)(hg:(wr.alloc ob).grownBy w3 (Value.ownBlock (.slice a2 n2 cap2))):A3 B w3 (rows++[r]) (l++[y]):=
 ((T.below ((Yg _ _).alloc (Zd _) _)).snoc (V.below ((Yg _ _).alloc (Zd _) _))).ty hg (R.alloc ob).rowTy (by decide)
theorem Ec.app {ob:Obj}(V:Ec B wr r y)(R:Ad irs 2 122 wr b2 a2 n2 cap2 rows2)(hg:(wr.alloc ob).grownBy w3 (Value.ownBlock (.slice a2 n2 cap2))):Ec B w3 r y:=
 ⟨V.nm,(V.ps.alloc ob).ty hg (R.alloc ob).rowTy (by decide)⟩
theorem cB_ (B:Nat)(id:Int)(nm:ByteArray)(fx:Bool)(its:List It)(ia:Option Addr)(inn icp:Nat)(irows:List IR)(name:ByteArray)(pa:Option Addr)(pn pc:Nat)(ps:List Pt)(w:World)
  (R:Ad irs 2 122 w B ia inn icp irows)(T:A3 B w irows its)(RP:Ad Pt.cs 3 124 w B pa pn pc ps)(hn:inn<=4194304):
  Calls prog 110 #[.agg #[.int .i64 id,.string nm,.bool fx,.slice ia inn icp],.string name,.slice pa pn pc] w fun e w'=>(∃ a2 n2 cap2 rows,e=.returned (.agg #[.int .i64 id,.string nm,.bool fx,.slice a2 n2 cap2])∧Ad irs 2 122 w' w.heap.size a2 n2 cap2 rows∧A3 B w' rows (CV ⟨name,ps⟩ its))∧Below w.heap.size w w':=by
 have hm:Hid (its.length=inn):=by show _=_;rw[<-T.len];exact R.sl.len
 have hz:irows.length=inn:=R.sl.len;go_enter func110,ntmps110
 go_wp2_with fail
 go_loopw [7,9,10] (fun lst dn ix wr=>∃ (k:Nat) (a2:Option Addr) (n2 cap2:Nat) (rows:List IR),k<=inn∧ix=.int .i64 k∧dn=.bool (FU ⟨name,ps⟩ its k).2∧lst=.slice a2 n2 cap2∧n2<=2*k∧Ad irs 2 122 wr (w.heap.size+2) a2 n2 cap2 rows∧A3 B wr rows (FU ⟨name,ps⟩ its k).1∧He w B a2 id nm fx ia inn icp name pa pn pc wr) (fun _ _ ix _=>inn-(intOf ix).toNat)
 case atStart=>exact⟨0,_,0,0,[],Zg _,rfl,rfl,rfl,by omega,aw_ ((Blk.new' _ _ _ _ (by simp)).alloc _) (by omega),A3.nil _ _,⟨fun ad e=>(by cases e;simp only[ne_eq];omega),(((Blk.new w _ _).alloc _).alloc _).alloc _,((Blk.new' _ _ _ _ (by simp)).alloc _).alloc _,Blk.new' _ _ _ _ (by simp),by simp,by go_grown⟩⟩
 case round=>
  obtain⟨k,a2,n2,cap2,rows,hk,rfl,rfl,rfl,hG,R2,T2,E⟩:=hrel;obtain⟨z0,z1,z2,z3⟩:=E.b0.four;have x0:wr.cell? ⟨w.heap.size+3,0,none⟩=some (.string name):=E.b3.cell 0;have x1:wr.cell? ⟨w.heap.size+3,1,none⟩=some (.slice pa pn pc):=E.b3.cell 1;have hH:=E.sz;have V0:Ec B wr (⟨name,pa,pn,pc⟩:IR) ⟨name,ps⟩:=⟨rfl,RP.below E.bl⟩;by_cases hlt:k<inn
  ·have hr:irows[k]?=some (irows[k]'(by omega)):=by simp[hz,hlt]
   have hy:its[k]?=some (its[k]'(by rw[hm.out];exact hlt)):=by simp[hm.out,hlt]
   have hB:=hr;have hV:=(T.below E.bl).at' k _ _ hr hy;obtain⟨b,o,rfl,hc⟩:=(R.sl.below E.bl).cell k _ hr;generalize irows[k]'(by omega)=r at *;generalize its[k]'(by rw[hm.out];exact hlt)=y at *;obtain⟨rn,qa,qn,qc⟩:=r;have c0:wr.cell? ⟨b,o+k*2,none⟩=some (.string rn):=hc 0 _ rfl;have c1:wr.cell? ⟨b,o+k*2+1,none⟩=some (.slice qa qn qc):=hc 1 _ rfl;have hf:Hid (FU ⟨name,ps⟩ its (k+1)=Cj ⟨name,ps⟩ (FU ⟨name,ps⟩ its k) y):=nq_ hy;have hC:rn=y.nm:=hV.nm;subst hC;clear hc hr hy;have hE:(k:Int)<inn:=by omega
   have hF:(0:Int)<=k:=by omega
   generalize FU ⟨name,ps⟩ its k=G at *;obtain⟨gl,d⟩:=G;simp only at T2 ⊢
   have hu:b<w.heap.size+2:=by
    have:=Yk w (⟨b,o+k*2,none⟩:Addr) (u:=.string y.nm) (by
     obtain⟨b',o',hw,hx⟩:=R.sl.cell k _ hB;obtain⟨rfl,rfl⟩:b=b'∧o=o':=by simpa using hw
     exact hx 0 _ rfl)
    simp only at this;omega
   cases d
   ·cases hh:bl y.nm.toList name.toList
    ·cases hb:(y.nm.toList==name.toList)
     ·have he:Hid (Cj ⟨name,ps⟩ (gl,false) y=(gl++[⟨name,ps⟩]++[y],true)):=by show _=_;simp[Cj,hh,hb]
      have hq:¬ y.nm.toList=name.toList:=by simpa using hb
      go_wp2_with (first | (at_builtin;refine ag_ rfl (fun K hK=>b1_ _ _ rfl (w.heap.size+2) a3 (n2+1) cap3 (rows++[(⟨name,pa,pn,pc⟩:IR)]) rfl (R3.alloc _) _ _ (⟨y.nm,qa,qn,qc⟩:IR) rfl (cd_ _ (⟨y.nm,qa,qn,qc⟩:IR) _ _ (by simp)) (by omega) (by simp;omega) (fun a4 cap4 w4 R4 hv hA=>hK _ _ ?_));have E4:=E3.app R3 hv hA;have hD:=E4.sz) | (at_builtin;refine ag_ rfl (fun K hK=>b1_ _ _ rfl (w.heap.size+2) a2 n2 cap2 rows rfl (R2.alloc _) _ _ (⟨name,pa,pn,pc⟩:IR) rfl (cd_ _ (⟨name,pa,pn,pc⟩:IR) _ _ (by simp)) (by omega) (by simp;omega) (fun a3 cap3 w3 R3 ha hj=>hK _ _ ?_));have E3:=E.app R2 ha hj;have hl:=E3.sz;have z3:w3.cell? ⟨w.heap.size,3,none⟩=some (.slice (some ⟨b,o,none⟩) inn icp):=E3.b0.cell 3;have c03:=ha.cell (Al _ c0) (at_ (fun ad ho=>(R2.block ad ho).1) hu);have c13:=ha.cell (Al _ c1) (at_ (fun ad ho=>(R2.block ad ho).1) hu)))
      go_wp2;go_roundw
      case rel=>exact⟨k+1,a4,(n2+1+1),cap4,_,by omega,by go_num,by rw[hf.out,he.out],rfl,by omega,R4,by rw[hf.out,he.out];exact ((T2.app V0 R2 ha).app (hV.app R2 ha) R3 hv),E4⟩
      case measure=>simp[intOf];omega
     ·have he:Hid (Cj ⟨name,ps⟩ (gl,false) y=(gl++[⟨name,ps⟩],true)):=by show _=_;simp[Cj,hh,hb]
      have hq:y.nm.toList=name.toList:=by simpa using hb
      have hg:=hh;rw[hq] at hg
      go_wp2_with (at_builtin;refine ag_ rfl (fun K hK=>b1_ _ _ rfl (w.heap.size+2) a2 n2 cap2 rows rfl (R2.alloc _) _ _ (⟨name,pa,pn,pc⟩:IR) rfl (cd_ _ (⟨name,pa,pn,pc⟩:IR) _ _ (by simp)) (by omega) (by simp;omega) (fun a3 cap3 w3 R3 ha hj=>hK _ _ ?_));have E3:=E.app R2 ha hj;have hl:=E3.sz;have z3:w3.cell? ⟨w.heap.size,3,none⟩=some (.slice (some ⟨b,o,none⟩) inn icp):=E3.b0.cell 3;have c03:=ha.cell (Al _ c0) (at_ (fun ad ho=>(R2.block ad ho).1) hu);have c13:=ha.cell (Al _ c1) (at_ (fun ad ho=>(R2.block ad ho).1) hu))
      go_wp2;go_roundw
      case rel=>exact⟨k+1,a3,(n2+1),cap3,_,by omega,by go_num,by rw[hf.out,he.out],rfl,by omega,R3,by rw[hf.out,he.out];exact (T2.app V0 R2 ha),E3⟩
      case measure=>simp[intOf];omega
    ·cases hb:(y.nm.toList==name.toList)
     ·have he:Hid (Cj ⟨name,ps⟩ (gl,false) y=(gl++[y],false)):=by show _=_;simp[Cj,hh,hb]
      have hq:¬ y.nm.toList=name.toList:=by simpa using hb
      go_wp2_with (at_builtin;refine ag_ rfl (fun K hK=>b1_ _ _ rfl (w.heap.size+2) a2 n2 cap2 rows rfl (R2.alloc _) _ _ (⟨y.nm,qa,qn,qc⟩:IR) rfl (cd_ _ (⟨y.nm,qa,qn,qc⟩:IR) _ _ (by simp)) (by omega) (by simp;omega) (fun a3 cap3 w3 R3 ha hj=>hK _ _ ?_));have E3:=E.app R2 ha hj;have hl:=E3.sz)
      go_wp2;go_roundw
      case rel=>exact⟨k+1,a3,(n2+1),cap3,_,by omega,by go_num,by rw[hf.out,he.out],rfl,by omega,R3,by rw[hf.out,he.out];exact (T2.app hV R2 ha),E3⟩
      case measure=>simp[intOf];omega
     ·have he:Hid (Cj ⟨name,ps⟩ (gl,false) y=(gl,false)):=by show _=_;simp[Cj,hh,hb]
      have hq:y.nm.toList=name.toList:=by simpa using hb
      have hg:=hh;rw[hq] at hg;go_wp2;go_roundw
      case rel=>exact⟨k+1,a2,n2,cap2,rows,by omega,by go_num,by rw[hf.out,he.out],rfl,by omega,R2,by rw[hf.out,he.out];exact T2,E⟩
      case measure=>simp[intOf];omega
   ·cases hh:bl y.nm.toList name.toList
    ·cases hb:(y.nm.toList==name.toList)
     ·have he:Hid (Cj ⟨name,ps⟩ (gl,true) y=(gl++[y],true)):=by show _=_;simp[Cj,hh,hb]
      have hq:¬ y.nm.toList=name.toList:=by simpa using hb
      go_wp2_with (at_builtin;refine ag_ rfl (fun K hK=>b1_ _ _ rfl (w.heap.size+2) a2 n2 cap2 rows rfl (R2.alloc _) _ _ (⟨y.nm,qa,qn,qc⟩:IR) rfl (cd_ _ (⟨y.nm,qa,qn,qc⟩:IR) _ _ (by simp)) (by omega) (by simp;omega) (fun a3 cap3 w3 R3 ha hj=>hK _ _ ?_));have E3:=E.app R2 ha hj;have hl:=E3.sz)
      go_wp2;go_roundw
      case rel=>exact⟨k+1,a3,(n2+1),cap3,_,by omega,by go_num,by rw[hf.out,he.out],rfl,by omega,R3,by rw[hf.out,he.out];exact (T2.app hV R2 ha),E3⟩
      case measure=>simp[intOf];omega
     ·have he:Hid (Cj ⟨name,ps⟩ (gl,true) y=(gl,true)):=by show _=_;simp[Cj,hh,hb]
      have hq:y.nm.toList=name.toList:=by simpa using hb
      have hg:=hh;rw[hq] at hg;go_wp2;go_roundw
      case rel=>exact⟨k+1,a2,n2,cap2,rows,by omega,by go_num,by rw[hf.out,he.out],rfl,by omega,R2,by rw[hf.out,he.out];exact T2,E⟩
      case measure=>simp[intOf];omega
    ·cases hb:(y.nm.toList==name.toList)
     ·have he:Hid (Cj ⟨name,ps⟩ (gl,true) y=(gl++[y],true)):=by show _=_;simp[Cj,hh,hb]
      have hq:¬ y.nm.toList=name.toList:=by simpa using hb
      go_wp2_with (at_builtin;refine ag_ rfl (fun K hK=>b1_ _ _ rfl (w.heap.size+2) a2 n2 cap2 rows rfl (R2.alloc _) _ _ (⟨y.nm,qa,qn,qc⟩:IR) rfl (cd_ _ (⟨y.nm,qa,qn,qc⟩:IR) _ _ (by simp)) (by omega) (by simp;omega) (fun a3 cap3 w3 R3 ha hj=>hK _ _ ?_));have E3:=E.app R2 ha hj;have hl:=E3.sz)
      go_wp2;go_roundw
      case rel=>exact⟨k+1,a3,(n2+1),cap3,_,by omega,by go_num,by rw[hf.out,he.out],rfl,by omega,R3,by rw[hf.out,he.out];exact (T2.app hV R2 ha),E3⟩
      case measure=>simp[intOf];omega
     ·have he:Hid (Cj ⟨name,ps⟩ (gl,true) y=(gl,true)):=by show _=_;simp[Cj,hh,hb]
      have hq:y.nm.toList=name.toList:=by simpa using hb
      have hg:=hh;rw[hq] at hg;go_wp2;go_roundw
      case rel=>exact⟨k+1,a2,n2,cap2,rows,by omega,by go_num,by rw[hf.out,he.out],rfl,by omega,R2,by rw[hf.out,he.out];exact T2,E⟩
      case measure=>simp[intOf];omega
  ·obtain rfl:k=inn:=by omega
   have ht:Hid (IO ⟨name,ps⟩ (FU ⟨name,ps⟩ its k)=CV ⟨name,ps⟩ its):=om_ hm.out;generalize FU ⟨name,ps⟩ its k=G at *;obtain⟨gl,d⟩:=G;simp only at T2 ⊢
   cases d
   ·go_wp2_with (at_builtin;refine ag_ rfl (fun K hK=>b1_ _ _ rfl (w.heap.size+2) a2 n2 cap2 rows rfl (R2.alloc _) _ _ (⟨name,pa,pn,pc⟩:IR) rfl (cd_ _ (⟨name,pa,pn,pc⟩:IR) _ _ (by simp)) (by omega) (by simp;omega) (fun a3 cap3 w3 R3 ha hj=>hK _ _ ?_));have E3:=E.app R2 ha hj;have hl:=E3.sz;have g3:=E3.b0.frozen 3;obtain⟨u0,u1,u2,u3⟩:=E3.b0.four;have V1:=E3.b0.set 3 (.slice a3 (n2+1) cap3);have hs:=CS w3 w.heap.size 3 (.slice a3 (n2+1) cap3);have D1:=E3.b1.other ⟨w.heap.size,3,none⟩ (.slice a3 (n2+1) cap3) (by simp only[ne_eq];omega);have V2:Blk (w3.setCell ⟨w.heap.size,3,none⟩ (.slice a3 (n2+1) cap3)) w.heap.size #[.int .i64 id,.string nm,.bool fx,.slice a3 (n2+1) cap3] 80:=(by simpa using V1);have RR:=R3.ty hs (aa_ E3.b0) (by decide);have TT:=(T2.app V0 R2 ha).ty hs (aa_ E3.b0) (by decide);have BB:=E3.bl.setCell (p:=⟨w.heap.size,3,none⟩) (Zd _) (.slice a3 (n2+1) cap3);obtain⟨v0,v1,v2,v3⟩:=V2.four;have m0:=D1.frozen 0;have m1:=D1.frozen 1;have m2:=D1.frozen 2;have m3:=D1.frozen 3;obtain⟨n0,n1,n2',n3⟩:=D1.four;obtain⟨W0,hp⟩:=MF D1 (.int .i64 id) (.string nm) (.bool fx) (.slice a3 (n2+1) cap3);have R0:=RR.ty hp (aa_ D1) (by decide);have T0:=TT.ty hp (aa_ D1) (by decide);have B1:=BB.grown hp BB.size (fun j e=>by cases e;omega);clear V1 V2 D1 RR TT BB hs)
    generalize ((((w3.setCell ⟨w.heap.size,3,none⟩ (.slice a3 (n2+1) cap3)).setCell ⟨w.heap.size+1,0,none⟩ (.int .i64 id)).setCell ⟨w.heap.size+1,1,none⟩ (.string nm)).setCell ⟨w.heap.size+1,2,none⟩ (.bool fx)).setCell ⟨w.heap.size+1,3,none⟩ (.slice a3 (n2+1) cap3)=W8 at *;refine YW (results_cell_row rfl _ W8 (w.heap.size+1) _ _ _ _ rfl W0 underlying80 rfl (by kernel_rfl)) rfl ?_;exact⟨⟨a3,(n2+1),cap3,_,rfl,R0.mono (by omega),by rw[<-ht.out];simp only[IO];exact T0⟩,B1⟩
   ·have g3:=E.b0.frozen 3;obtain⟨u0,u1,u2,u3⟩:=E.b0.four;have V1:=E.b0.set 3 (.slice a2 n2 cap2);have hs:=CS wr w.heap.size 3 (.slice a2 n2 cap2);have D1:=E.b1.other ⟨w.heap.size,3,none⟩ (.slice a2 n2 cap2) (by simp only[ne_eq];omega);have V2:Blk (wr.setCell ⟨w.heap.size,3,none⟩ (.slice a2 n2 cap2)) w.heap.size #[.int .i64 id,.string nm,.bool fx,.slice a2 n2 cap2] 80:=by simpa using V1
    have RR:=R2.ty hs (aa_ E.b0) (by decide);have TT:=T2.ty hs (aa_ E.b0) (by decide);have BB:=E.bl.setCell (p:=⟨w.heap.size,3,none⟩) (Zd _) (.slice a2 n2 cap2);obtain⟨v0,v1,v2,v3⟩:=V2.four;have m0:=D1.frozen 0;have m1:=D1.frozen 1;have m2:=D1.frozen 2;have m3:=D1.frozen 3;obtain⟨n0,n1,n2',n3⟩:=D1.four;obtain⟨W0,hp⟩:=MF D1 (.int .i64 id) (.string nm) (.bool fx) (.slice a2 n2 cap2);have R0:=RR.ty hp (aa_ D1) (by decide);have T0:=TT.ty hp (aa_ D1) (by decide);have B1:=BB.grown hp BB.size (fun j e=>by cases e;omega);clear V1 V2 D1 RR TT BB hs;go_wp2;generalize ((((wr.setCell ⟨w.heap.size,3,none⟩ (.slice a2 n2 cap2)).setCell ⟨w.heap.size+1,0,none⟩ (.int .i64 id)).setCell ⟨w.heap.size+1,1,none⟩ (.string nm)).setCell ⟨w.heap.size+1,2,none⟩ (.bool fx)).setCell ⟨w.heap.size+1,3,none⟩ (.slice a2 n2 cap2)=W8 at *;refine YW (results_cell_row rfl _ W8 (w.heap.size+1) _ _ _ _ rfl W0 underlying80 rfl (by kernel_rfl)) rfl ?_;exact⟨⟨a2,n2,cap2,_,rfl,R0.mono (by omega),by rw[<-ht.out];simp only[IO];exact T0⟩,B1⟩
end
section
open Go Go.RowKit
variable{B y:Int}{l m:List Pt}{p x:Pt}
theorem aX_ {q:Option Pt}{r:List Pt}:pgo q B (p::r)=true↔Ao p=true∧p.n<=B∧(∀ x,q=some x->Be x p=false)∧pgo (some p) (B-p.n) r=true:=by
 cases q with
 |none=>simp[pgo,and_assoc]
 |some x=>simp[pgo,and_assoc]
theorem f4_ (l:List Pt):∀ (q:Option Pt) (B c:Int),pgo q B l=true->Aj l<=c->0<=c->pgo q c l=true:=by
 induction l with
 |nil=>intro q B c _ _ _;cases q<;>rfl
 |cons p r ih=>
  intro q B c h hs hc;obtain⟨h1,h2,h3,h4⟩:=aX_.1 h;simp only[Aj] at hs;have ha:=cH_ r (some p) (B-p.n) (by omega) h4;have hr:=az_ r ha.1;exact aX_.2 ⟨h1,by omega,h3,ih (some p) (B-p.n) (c-p.n) h4 (by omega) (by omega)⟩
theorem kS_ (l:List Pt):∀ (q:Option Pt) (B:Int) (p:Pt),pgo q B l=true->Ao p=true->Aj l+p.n<=B->(∀ x,(l.getLast?.or q)=some x->Be x p=false)->pgo q B (l++[p])=true:=by
 induction l with
 |nil=>
  intro q B p _ hp hs hx;simp only[Aj] at hs;exact aX_.2 ⟨hp,by omega,fun x hq=>hx x (by simpa using hq),rfl⟩
 |cons y r ih=>
  intro q B p h hp hs hx;obtain⟨h1,h2,h3,h4⟩:=aX_.1 h;simp only[Aj] at hs;refine aX_.2 ⟨h1,h2,h3,ih (some y) (B-y.n) p h4 hp (by omega) ?_⟩;intro x ha;refine hx x ?_
  cases r with
  |nil=>simpa using ha
  |cons z t=>
   obtain⟨v,hv⟩:∃ v,(z::t).getLast?=some v:=⟨_,List.getLast?_cons⟩;rw[hv] at ha;rw[List.getLast?_cons_cons,hv];exact ha
theorem oJ_ (l:List Pt):∀ (q:Option Pt) (B:Int) (p:Pt),pgo q B (l++[p])=true->pgo q B l=true∧Ao p=true∧Aj l+p.n<=B∧(∀ x,(l.getLast?.or q)=some x->Be x p=false):=by
 induction l with
 |nil=>
  intro q B p h;obtain⟨h1,h2,h3,_⟩:=aX_.1 h;exact⟨by cases q<;>rfl,h1,by simp only[Aj];omega,fun x hx=>h3 x (by simpa using hx)⟩
 |cons y r ih=>
  intro q B p h;obtain⟨h1,h2,h3,h4⟩:=aX_.1 h;obtain⟨k1,k2,k3,k4⟩:=ih (some y) (B-y.n) p h4;refine⟨aX_.2 ⟨h1,h2,h3,k1⟩,k2,by simp only[Aj];omega,?_⟩;intro x hx;refine k4 x ?_
  cases r with
  |nil=>simpa using hx
  |cons z t=>
   obtain⟨v,hv⟩:∃ v,(z::t).getLast?=some v:=⟨_,List.getLast?_cons⟩;rw[List.getLast?_cons_cons,hv] at hx;rw[hv];exact hx
theorem nF_ (hx:Ao x=true)(hp:Ao p=true)(hg:Be x p=true):Ao ⟨x.a,x.f,x.n+p.n⟩=true:=by
 have h1:=av_ hx;have h2:=av_ hp;simp only[Be,Zf,Bool.or_eq_true,beq_iff_eq] at hg;obtain⟨ha,hg⟩:=hg;unfold Ao at *;by_cases h0:x.a=0
 ·simp[h0] at hx ⊢;omega
 ·have hb:(x.a==0)=false:=by simp[h0]
  have hc:(p.a==0)=false:=by simp;omega
  simp only[hb,hc,Zj,if_false,Zf,ZU] at hx hp ⊢;rcases hg with hg | hg
  ·omega
  ·rw[fx_ (by omega) (by omega)] at hg;omega
theorem pL_ (h:pgo none B l=true)(hp:Ao p=true)(hs:Aj l+p.n<=B)(hB:B<=1000)(h0:0<=B):pgo none B (BE l p)=true∧Aj (BE l p)=Aj l+p.n:=by
 rcases List.eq_nil_or_concat l with rfl | ⟨L,x,rfl⟩
 ·simp only[Aj] at hs;exact⟨aX_.2 ⟨hp,by omega,fun x hx=>(by cases hx),rfl⟩,by simp[BE,Aj]⟩
 ·rw[List.concat_eq_append] at *;have hl:(L++[x]).getLast?=some x:=by simp
  cases hg:Be x p
  ·have e:BE (L++[x]) p=L++[x]++[p]:=by simp[BE,hg]
   rw[e];exact⟨kS_ _ none B p h hp hs (fun y hy=>by simp at hy;subst hy;exact hg),by rw[a5_];simp[Aj]⟩
  ·obtain⟨k1,k2,k3,k4⟩:=oJ_ L none B x h;rw[a5_] at hs;simp only[Aj] at hs;have hL:=az_ L (cH_ L none B h0 k1).1;have hb:=av_ k2;have ha:=av_ hp
   have e:BE (L++[x]) p=L++[⟨x.a,x.f,x.n+p.n⟩]:=by
    simp only[BE,hl,hg,if_true,List.dropLast_concat];rw[fx_ (by omega) (by omega)]
   rw[e];refine⟨kS_ L none B _ k1 (nF_ k2 hp hg) (by show Aj L+(x.n+p.n)<=B;omega) k4,?_⟩;rw[a5_,a5_];simp[Aj];omega
theorem kT_ (m:List Pt):∀ (l:List Pt) (B:Int),pgo none B l=true->(∀ p∈m,Ao p=true)->Aj l+Aj m<=B->B<=1000->0<=B->pgo none B (At l m)=true∧Aj (At l m)=Aj l+Aj m:=by
 induction m with
 |nil=>intro l B h _ _ _ _;exact⟨h,by simp[At,Aj]⟩
 |cons p t ih=>
  intro l B h hm hs hB h0;simp only[Aj] at hs;have ht:=az_ t (fun q hq=>hm q (by simp[hq]));obtain⟨a1,a2⟩:=pL_ h (hm p (by simp)) (by omega) hB h0;obtain⟨b1,b2⟩:=ih (BE l p) B a1 (fun q hq=>hm q (by simp[hq])) (by omega) hB h0;exact⟨b1,by show Aj (At (BE l p) t)=_;rw[b2,a2];simp[Aj];omega⟩
theorem f5_ (h:Ae l=true):pgo none 100 l=true:=by
 simp[Ae] at h;exact h.2
end
end Go.Proofs.YtkiceokhlceciaaGreatDoor
