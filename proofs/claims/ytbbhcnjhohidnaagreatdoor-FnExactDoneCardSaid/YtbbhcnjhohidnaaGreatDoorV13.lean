/- Ops as plain data: when one is right; names and lengths. -/
import Derived.Lib.Overlaps
import Derived.Laws.CopyOwn
import Derived.Test.YtbbhcnjhohidnaaGreatDoorV12
set_option maxHeartbeats 20000000
set_option maxRecDepth 100000
namespace Go.Proofs.YtbbhcnjhohidnaaGreatDoor
section
open Go Go.RowKit Go.BigFrame Tryz
variable{α:Type}{B b cap i n sz:Nat}{t:TypeId}{v:Value}{w w':World}{l:List α}{cs:α->List Value}
theorem fu_ (B:Nat)(hB0:0<B)(v:Value)(p:Po)(o:Opr)(w:World)(h:PoolT B w v p)(hBw:B<=w.heap.size)(hd:DimP p)(hnx:1<=p.next∧p.next<=1000000000)(hk:o.k=6)(i:Nat)(hso:volI p.vs o.vol=some i)(hto:volI p.vs o.to=none):
  Calls prog 62 #[v,.agg #[.int .i64 o.k,.string o.vol,.string o.file,.string o.to,.string o.into,.int .i64 o.at',.int .i64 o.fr,.int .i64 o.ln,.string o.data]] w fun e w'=>(∃ v' c,e=.returned (.tuple #[v',.int .i64 c])∧PoolV v'∧c=(volS p o).1∧(c=0->PoolT B w' v' (volS p o).2))∧Below B w w'∧FrV w w':=by
 obtain⟨ea,en,ec,va,vn,vc,ra,rn,rc,la,ln,lc,rows,rfl,h1,⟨h2,h3⟩,h4,h5,h6⟩:=h;obtain⟨z1,z2,z3,z4,z5,z6,z7,z8⟩:=hd;have hV:VsAt B w va vn p.vs:=h3.rows.vs h2;rw[hV.len] at z3;obtain⟨size,next,ex,vs,rf,lt⟩:=p;obtain⟨k,vol,file,tt,into,at0,fr,ln0,data⟩:=o;simp only at h1 h2 h3 h4 h5 hV z4 z3 hnx hk ⊢;have _:=hB0;have _:=hnx;have _:=hBw;have hu:vs.length=vn:=hV.len;have hD:rows.length=vn:=h2.sl.len;subst hk;simp only at hso;have hi:=ap_ hso;have hC:i<vn:=by omega
 have hx:vs[i]?=some vs[i]:=by simp[hi]
 have hE:(0:Int)<=(i:Int):=by omega
 have hw:(i:Int)<vn:=by omega
 simp only at hto;obtain⟨m1,m2,m3⟩:=z4 _ (Zc hx);have hr:rows[i]?=some (rows[i]'(by omega)):=by simp[hD,hC]
 have VT:=h3.at' i _ _ hr hx;generalize rows[i]'(by omega)=r0 at *;generalize vs[i]=x at *;obtain⟨rid,rnm,rfx,pa0,pn0,pc0⟩:=r0;obtain⟨e1,e2,e3,irows,RI,TI⟩:=VT;simp only at e1 e2 e3 RI;subst e1 e2 e3;obtain⟨vb,rfl,hF,hv,hz⟩:=h2.addr (by omega);have hS:Hid (volS ⟨size,next,ex,vs,rf,lt⟩ ⟨6,vol,file,tt,into,at0,fr,ln0,data⟩=(0,⟨size,next+1,ex,vs++[⟨next,tt,false,x.its⟩],rf,lt⟩)):=by show _=_;simp[volS,hso,hx,hto]
 generalize volS ⟨size,next,ex,vs,rf,lt⟩ ⟨6,vol,file,tt,into,at0,fr,ln0,data⟩=R at *;have hJ:IntKind.i64.wrap (next+1)=next+1:=by rw[IntKind.wrap_i64];omega
 go_enter func62,ntmps62
 go_wp2_with fail
 refine (ak_ B size next ea en ec (some ⟨vb,0,none⟩) vn vc ra rn rc la ln lc vs vol _ (hV.below (by go_grown)) z3).mono ?_;rintro e w1 ⟨rfl,hs⟩;obtain⟨C,O,D,hm,hH⟩:=bx3 hs;clear hs;obtain⟨c0,c1,c2,c3,c4,c5⟩:=C.six';have o0:w1.cell? ⟨w.heap.size+1,0,none⟩=some (.int .i64 6):=O.cell 0;have o1:w1.cell? ⟨w.heap.size+1,1,none⟩=some (.string vol):=O.cell 1;have o2:w1.cell? ⟨w.heap.size+1,2,none⟩=some (.string file):=O.cell 2;have o3:w1.cell? ⟨w.heap.size+1,3,none⟩=some (.string tt):=O.cell 3;obtain⟨x0,x1,x2,x3,x4,x5⟩:=D.six';obtain⟨f0,f1,f2,f3,f4,f5⟩:=fz6 D;rw[hso];simp only[idxV]
 go_wp2_with fail
 refine (ak_ B size next ea en ec (some ⟨vb,0,none⟩) vn vc ra rn rc la ln lc vs tt _ (hV.below hm) z3).mono ?_;rintro e wA ⟨rfl,hj⟩;rw[hto];simp only[idxV];have C':=C.below hj;have D':=D.below hj;have O':=O.below hj;have he:=chain hm hj;have hG:=hj.size;clear c0 c1 c2 c3 c4 c5 o0 o1 o2 o3 x0 x1 x2 x3 x4 x5 f0 f1 f2 f3 f4 f5 C D O;obtain⟨c0,c1,c2,c3,c4,c5⟩:=C'.six';have o0:wA.cell? ⟨w.heap.size+1,0,none⟩=some (.int .i64 6):=O'.cell 0;have o2:wA.cell? ⟨w.heap.size+1,2,none⟩=some (.string file):=O'.cell 2;have o3:wA.cell? ⟨w.heap.size+1,3,none⟩=some (.string tt):=O'.cell 3;obtain⟨x0,x1,x2,x3,x4,x5⟩:=D'.six';obtain⟨f0,f1,f2,f3,f4,f5⟩:=fz6 D';have RA:=h2.below he;have e0:wA.cell? ⟨vb,i*4,none⟩=some (.int .i64 x.id):=RA.cellAt (j:=0) hr rfl;have e1:wA.cell? ⟨vb,i*4+1,none⟩=some (.string x.nm):=RA.cellAt (j:=1) hr rfl;have e2:wA.cell? ⟨vb,i*4+2,none⟩=some (.bool x.fx):=RA.cellAt (j:=2) hr rfl;have e3:wA.cell? ⟨vb,i*4+3,none⟩=some (.slice pa0 pn0 pc0):=RA.cellAt (j:=3) hr rfl;have IA:ItsAt B wA pa0 pn0 x.its:=(TI.below he).rows.its (RI.below he);rw[IA.len] at m2
 go_wp2_with fail
 refine (eq_ B hB0 x.id x.nm x.fx x.its pa0 pn0 pc0 _ IA m2 (fun y hy=>(m3 y hy).2)).mono ?_;rintro e wB ⟨⟨pa,pc,jrows,rfl,RJ,TJ⟩,hh⟩;have hn:=chain he hh;have hL:=hh.size;have hg:Below wB.heap.size wB (wB.alloc (.cells #[.int .i64 next,.string tt,.bool false,.slice pa pn0 pc] 97)):=(Below.refl _ _).alloc (Zd _) _;have hM:=hg.size;have ha:=chain hn hg;have CX:=(C'.below hh).below hg;have DX:=(D'.below hh).below hg;have RX:=h2.below ha;have k1:=bcell hh c1;have k3:=bcell hh c3;have k9:=bcell hh o3;have n0:¬ w.heap.size=wB.heap.size:=by omega
 have n1:¬ w.heap.size+1=wB.heap.size:=by omega
 have n2:¬ wB.heap.size=w.heap.size:=by omega
 have n3:¬ wB.heap.size=w.heap.size+1:=by omega
 have k1':=fun ob=>acell (w:=wB) ob k1;have k3':=fun ob=>acell (w:=wB) ob k3;have k9':=fun ob=>acell (w:=wB) ob k9
 go_wp2_with (at_builtin;refine ag_ rfl (fun K hK=>dC_ _ _ rfl B (some ⟨vb,0,none⟩) vn vc rows rfl (RX.alloc _) _ 1 1 [(⟨next,tt,false,pa,pn0,pc⟩:VR)] rfl (fQ_ _ (⟨next,tt,false,pa,pn0,pc⟩:VR) _ _ (by simp)) (fun ad h=>(by cases h;rfl)) (fun h=>(by cases h)) (vn+1) rfl (by omega) (by simp;omega) (fun a2 cap2 w2 R2 hc=>hK _ _ ?_));have ho:∀ j,Value.ownBlock (.slice (some ⟨vb,0,none⟩) vn vc)=some j->B<=j:=aG_ fun ad ht=>(h2.block ad ht).1;have hf:=(RX.alloc (.cells #[.int .i64 next,.string tt,.bool false,.slice pa pn0 pc] 97)).rowTy (m:=vn) (k:=vc);have hB:=hc.size;have C2:=(CX.alloc (.cells #[.int .i64 next,.string tt,.bool false,.slice pa pn0 pc] 97)).ty hc hf (by decide);have D2:=(DX.alloc (.cells #[.int .i64 next,.string tt,.bool false,.slice pa pn0 pc] 97)).ty hc hf (by decide);have hA:=((ha.alloc ha.size (.cells #[.int .i64 next,.string tt,.bool false,.slice pa pn0 pc] 97)).mono hBw).grown hc (by simp;omega) ho;have P2:PoolT B w2 (.agg #[.int .i64 size,.int .i64 (next+1),.slice ea en ec,.slice a2 (vn+1) cap2,.slice ra rn rc,.slice la ln lc]) ⟨size,next+1,ex,vs++[⟨next,tt,false,x.its⟩],rf,lt⟩:=⟨ea,en,ec,a2,vn+1,cap2,ra,rn,rc,la,ln,lc,rows++[(⟨next,tt,false,pa,pn0,pc⟩:VR)],rfl,((h1.below ha).alloc (.cells #[.int .i64 next,.string tt,.bool false,.slice pa pn0 pc] 97)).ty hc hf (by decide),⟨R2,((h3.below (ha.alloc ha.size (.cells #[.int .i64 next,.string tt,.bool false,.slice pa pn0 pc] 97))).ty hc hf (by decide) (by decide)).snoc ⟨rfl,rfl,rfl,jrows,(((RJ.below hg).alloc (.cells #[.int .i64 next,.string tt,.bool false,.slice pa pn0 pc] 97)).ty hc hf (by decide)).mono (by omega),((TJ.below (hg.alloc hg.size (.cells #[.int .i64 next,.string tt,.bool false,.slice pa pn0 pc] 97))).ty hc hf (by decide)).mono (by omega)⟩⟩,((h4.below ha).alloc (.cells #[.int .i64 next,.string tt,.bool false,.slice pa pn0 pc] 97)).ty hc hf (by decide),((h5.below ha).alloc (.cells #[.int .i64 next,.string tt,.bool false,.slice pa pn0 pc] 97)).ty hc hf (by decide),h6⟩;obtain⟨y0,y1,y2,y3,y4,y5⟩:=C2.six';obtain⟨q0,q1,q2,q3,q4,q5⟩:=D2.six';have g1:=C2.frozen 1;have g3:=C2.frozen 3;have m0:=D2.frozen 0;have m1:=D2.frozen 1;have m2:=D2.frozen 2;have m3:=D2.frozen 3;have m4:=D2.frozen 4;have m5:=D2.frozen 5)
 simp only[World.size_alloc] at hB;have hl:w2.grownBy ((w2.setCell ⟨w.heap.size,3,none⟩ (.slice a2 (vn+1) cap2)).setCell ⟨w.heap.size,1,none⟩ (.int .i64 (next+1))) (some w.heap.size):=af_ (gset w2 w.heap.size 3 (.slice a2 (vn+1) cap2)) 1 (.int .i64 (next+1));have D3:Blk ((w2.setCell ⟨w.heap.size,3,none⟩ (.slice a2 (vn+1) cap2)).setCell ⟨w.heap.size,1,none⟩ (.int .i64 (next+1))) (w.heap.size+2) _ _:=(hl.block _ D2.lt (by simp only[ne_eq,Zo];omega)).trans D2;obtain⟨W8,hq,W0,hp⟩:=set6 D3 (.int .i64 size) (.int .i64 (next+1)) (.slice ea en ec) (.slice a2 (vn+1) cap2) (.slice ra rn rc) (.slice la ln lc);have PF:=(P2.tyP hl (aa_ C2)).tyP hp (aa_ D3);have hI:=hl.size;have B8:=(hA.grown hl (by omega) (fun j e=>by cases e;omega)).grown hp (by omega) (fun j e=>by cases e;omega);have FT:=fun (k:Nat) (c:Array Value) (t:TypeId) (hb:Blk w k c t) (hne:t≠97)=>(((((hb.below ha).alloc (.cells #[.int .i64 next,.string tt,.bool false,.slice pa pn0 pc] 97)).ty hc hf hne)).offB hl (B:=w.heap.size) (fun j e=>by cases e;omega) hb.lt).offB hp (B:=w.heap.size) (fun j e=>by cases e;omega) hb.lt;rw[<-hq];clear hq;refine bodyPost_ret (ad_ rfl _ W8 (w.heap.size+2) _ _ _ _ _ rfl W0 underlying35 rfl (by kernel_rfl) rfl) rfl ?_;exact⟨⟨_,0,rfl,bm_ _ _ _ _ _ _ _ _ _ _ _ _ _ _,by rw[hS.out],fun _=>by rw[hS.out];exact PF⟩,B8,FT⟩
theorem ResAt.blkAt (h:ResAt cs sz t w B (some ⟨b,0,none⟩) n cap l):∃ c,Blk w b c t:=by
 rcases h.own with⟨h0,_⟩ | ⟨b',e,_,_,_,c,hc,_⟩
 ·cases h0
 ·cases e;exact⟨c,hc⟩
theorem e0_ (B:Nat)(hB0:0<B)(v:Value)(p:Po)(o:Opr)(w:World)(h:PoolT B w v p)(hBw:B<=w.heap.size)(hd:DimP p)(hnx:1<=p.next∧p.next<=1000000000)(hk:o.k=8)(i:Nat)(hso:volI p.vs o.vol=some i)(hfx:∀ x:Vo,p.vs[i]?=some x->x.fx=true):
  Calls prog 62 #[v,.agg #[.int .i64 o.k,.string o.vol,.string o.file,.string o.to,.string o.into,.int .i64 o.at',.int .i64 o.fr,.int .i64 o.ln,.string o.data]] w fun e w'=>(∃ v' c,e=.returned (.tuple #[v',.int .i64 c])∧PoolV v'∧c=(volS p o).1∧(c=0->PoolT B w' v' (volS p o).2))∧Below B w w'∧FrV w w':=by
 obtain⟨ea,en,ec,va,vn,vc,ra,rn,rc,la,ln,lc,rows,rfl,h1,⟨h2,h3⟩,h4,h5,h6⟩:=h;obtain⟨z1,z2,z3,z4,z5,z6,z7,z8⟩:=hd;have hV:VsAt B w va vn p.vs:=h3.rows.vs h2;rw[hV.len] at z3;obtain⟨size,next,ex,vs,rf,lt⟩:=p;obtain⟨k,vol,file,tt,into,at0,fr,ln0,data⟩:=o;simp only at h1 h2 h3 h4 h5 hV z4 z3 hnx hk ⊢;have _:=hB0;have _:=hnx;have _:=hBw;have he:vs.length=vn:=hV.len;have hm:rows.length=vn:=h2.sl.len;subst hk;simp only at hso;have hi:=ap_ hso;have hl:i<vn:=by omega
 have hx:vs[i]?=some vs[i]:=by simp[hi]
 have ho:(0:Int)<=(i:Int):=by omega
 have hh:(i:Int)<vn:=by omega
 have hr:rows[i]?=some (rows[i]'(by omega)):=by simp[hm,hl]
 have VT:=h3.at' i _ _ hr hx;generalize rows[i]'(by omega)=r0 at *;generalize vs[i]=x at *;obtain⟨rid,rnm,rfx,pa0,pn0,pc0⟩:=r0;obtain⟨e1,e2,e3,irows,RI,TI⟩:=VT;simp only at e1 e2 e3 RI;subst e1 e2 e3;obtain⟨vb,rfl,hp,hg,hj⟩:=h2.addr (by omega);simp only at hfx;have hf:=hfx _ hx;clear hfx;have hS:Hid (volS ⟨size,next,ex,vs,rf,lt⟩ ⟨8,vol,file,tt,into,at0,fr,ln0,data⟩=(6,⟨size,next,ex,vs,rf,lt⟩)):=by show _=_;simp[volS,hso,hx,hf]
 generalize volS ⟨size,next,ex,vs,rf,lt⟩ ⟨8,vol,file,tt,into,at0,fr,ln0,data⟩=R at *;go_enter func62,ntmps62
 go_wp2_with fail
 refine (ak_ B size next ea en ec (some ⟨vb,0,none⟩) vn vc ra rn rc la ln lc vs vol _ (hV.below (by go_grown)) z3).mono ?_;rintro e w1 ⟨rfl,hc⟩;obtain⟨C,O,D,ha,hq⟩:=bx3 hc;clear hc;obtain⟨c0,c1,c2,c3,c4,c5⟩:=C.six';have o0:w1.cell? ⟨w.heap.size+1,0,none⟩=some (.int .i64 8):=O.cell 0;have o1:w1.cell? ⟨w.heap.size+1,1,none⟩=some (.string vol):=O.cell 1;have o2:w1.cell? ⟨w.heap.size+1,2,none⟩=some (.string file):=O.cell 2;have o3:w1.cell? ⟨w.heap.size+1,3,none⟩=some (.string tt):=O.cell 3;obtain⟨x0,x1,x2,x3,x4,x5⟩:=D.six';obtain⟨f0,f1,f2,f3,f4,f5⟩:=fz6 D;rw[hso];simp only[idxV];have RA:=h2.below ha;have e0:w1.cell? ⟨vb,i*4,none⟩=some (.int .i64 x.id):=RA.cellAt (j:=0) hr rfl;have e1:w1.cell? ⟨vb,i*4+1,none⟩=some (.string x.nm):=RA.cellAt (j:=1) hr rfl;have e2:w1.cell? ⟨vb,i*4+2,none⟩=some (.bool x.fx):=RA.cellAt (j:=2) hr rfl;have e3:w1.cell? ⟨vb,i*4+3,none⟩=some (.slice pa0 pn0 pc0):=RA.cellAt (j:=3) hr rfl;rw[hf] at e2;go_wp2;obtain⟨W8,hb,W0,hn⟩:=set6 D (.int .i64 size) (.int .i64 next) (.slice ea en ec) (.slice (some ⟨vb,0,none⟩) vn vc) (.slice ra rn rc) (.slice la ln lc);have B8:=ha.grown hn ha.size (fun j e=>by cases e;omega);rw[<-hb];clear hb;refine bodyPost_ret (ad_ rfl _ W8 (w.heap.size+2) _ _ _ _ _ rfl W0 underlying35 rfl (by kernel_rfl) rfl) rfl ?_;exact⟨⟨_,6,rfl,bm_ _ _ _ _ _ _ _ _ _ _ _ _ _ _,by rw[hS.out],fun h=>absurd h (by omega)⟩,B8.mono hBw,FrV.of B8⟩
theorem fT_ (B:Nat)(hB0:0<B)(v:Value)(p:Po)(o:Opr)(w:World)(h:PoolT B w v p)(hBw:B<=w.heap.size)(hd:DimP p)(hnx:1<=p.next∧p.next<=1000000000)(hk:o.k=8)(i:Nat)(hso:volI p.vs o.vol=some i)(hfx:∀ x:Vo,p.vs[i]?=some x->x.fx=false):
  Calls prog 62 #[v,.agg #[.int .i64 o.k,.string o.vol,.string o.file,.string o.to,.string o.into,.int .i64 o.at',.int .i64 o.fr,.int .i64 o.ln,.string o.data]] w fun e w'=>(∃ v' c,e=.returned (.tuple #[v',.int .i64 c])∧PoolV v'∧c=(volS p o).1∧(c=0->PoolT B w' v' (volS p o).2))∧Below B w w'∧FrV w w':=by
 obtain⟨ea,en,ec,va,vn,vc,ra,rn,rc,la,ln,lc,rows,rfl,h1,⟨h2,h3⟩,h4,h5,h6⟩:=h;obtain⟨z1,z2,z3,z4,z5,z6,z7,z8⟩:=hd;have hV:VsAt B w va vn p.vs:=h3.rows.vs h2;rw[hV.len] at z3;obtain⟨size,next,ex,vs,rf,lt⟩:=p;obtain⟨k,vol,file,tt,into,at0,fr,ln0,data⟩:=o;simp only at h1 h2 h3 h4 h5 hV z4 z3 hnx hk ⊢;have _:=hB0;have _:=hnx;have _:=hBw;have hm:vs.length=vn:=hV.len;have ht:rows.length=vn:=h2.sl.len;subst hk;simp only at hso;have hi:=ap_ hso;have hs:i<vn:=by omega
 have hx:vs[i]?=some vs[i]:=by simp[hi]
 have hu:(0:Int)<=(i:Int):=by omega
 have ho:(i:Int)<vn:=by omega
 have hr:rows[i]?=some (rows[i]'(by omega)):=by simp[ht,hs]
 have VT:=h3.at' i _ _ hr hx;generalize rows[i]'(by omega)=r0 at *;generalize vs[i]=x at *;obtain⟨rid,rnm,rfx,pa0,pn0,pc0⟩:=r0;obtain⟨e1,e2,e3,irows,RI,TI⟩:=VT;simp only at e1 e2 e3 RI;subst e1 e2 e3;obtain⟨vb,rfl,hl,hn,hp⟩:=h2.addr (by omega);simp only at hfx;have hf:=hfx _ hx;clear hfx;have hS:Hid (volS ⟨size,next,ex,vs,rf,lt⟩ ⟨8,vol,file,tt,into,at0,fr,ln0,data⟩=(0,⟨size,next,ex,vs.set i ⟨x.id,x.nm,true,x.its⟩,rf,lt⟩)):=by show _=_;simp[volS,hso,hx,hf]
 generalize volS ⟨size,next,ex,vs,rf,lt⟩ ⟨8,vol,file,tt,into,at0,fr,ln0,data⟩=R at *;go_enter func62,ntmps62
 go_wp2_with fail
 refine (ak_ B size next ea en ec (some ⟨vb,0,none⟩) vn vc ra rn rc la ln lc vs vol _ (hV.below (by go_grown)) z3).mono ?_;rintro e w1 ⟨rfl,hj⟩;obtain⟨C,O,D,ha,hv⟩:=bx3 hj;clear hj;obtain⟨c0,c1,c2,c3,c4,c5⟩:=C.six';have o0:w1.cell? ⟨w.heap.size+1,0,none⟩=some (.int .i64 8):=O.cell 0;have o1:w1.cell? ⟨w.heap.size+1,1,none⟩=some (.string vol):=O.cell 1;have o2:w1.cell? ⟨w.heap.size+1,2,none⟩=some (.string file):=O.cell 2;have o3:w1.cell? ⟨w.heap.size+1,3,none⟩=some (.string tt):=O.cell 3;obtain⟨x0,x1,x2,x3,x4,x5⟩:=D.six';obtain⟨f0,f1,f2,f3,f4,f5⟩:=fz6 D;rw[hso];simp only[idxV];have RA:=h2.below ha;have e0:w1.cell? ⟨vb,i*4,none⟩=some (.int .i64 x.id):=RA.cellAt (j:=0) hr rfl;have e1:w1.cell? ⟨vb,i*4+1,none⟩=some (.string x.nm):=RA.cellAt (j:=1) hr rfl;have e2:w1.cell? ⟨vb,i*4+2,none⟩=some (.bool x.fx):=RA.cellAt (j:=2) hr rfl;have e3:w1.cell? ⟨vb,i*4+3,none⟩=some (.slice pa0 pn0 pc0):=RA.cellAt (j:=3) hr rfl;rw[hf] at e2;obtain⟨vcs,VB⟩:=RA.blkAt;have fz:=VB.frozen (i*4+2);have hc:=gset w1 vb (i*4+2) (.bool true);have he:RowTy w1 (some vb) 97:=aa_ VB;have R1:ResAt vrs 4 97 (w1.setCell ⟨vb,i*4+2,none⟩ (.bool true)) B (some ⟨vb,0,none⟩) vn vc (rows.set i ⟨x.id,x.nm,true,pa0,pn0,pc0⟩):=ResAt.set1 a2_ RA hr (by omega) rfl;have T1:=((h3.below ha).ty hc he (by decide) (by decide)).set i (show VolT B _ ⟨x.id,x.nm,true,pa0,pn0,pc0⟩ ⟨x.id,x.nm,true,x.its⟩ from ⟨rfl,rfl,rfl,irows,(RI.below ha).ty hc he (by decide),(TI.below ha).ty hc he (by decide)⟩);have C1:=C.ty hc he (by decide);have D1:=D.ty hc he (by decide);have P2:PoolT B (w1.setCell ⟨vb,i*4+2,none⟩ (.bool true)) (.agg #[.int .i64 size,.int .i64 next,.slice ea en ec,.slice (some ⟨vb,0,none⟩) vn vc,.slice ra rn rc,.slice la ln lc]) ⟨size,next,ex,vs.set i ⟨x.id,x.nm,true,x.its⟩,rf,lt⟩:=⟨ea,en,ec,some ⟨vb,0,none⟩,vn,vc,ra,rn,rc,la,ln,lc,_,rfl,(h1.below ha).ty hc he (by decide),⟨R1,T1⟩,(h4.below ha).ty hc he (by decide),(h5.below ha).ty hc he (by decide),h6⟩;obtain⟨y0,y1,y2,y3,y4,y5⟩:=C1.six';obtain⟨q0,q1,q2,q3,q4,q5⟩:=D1.six';obtain⟨m0,m1,m2,m3,m4,m5⟩:=fz6 D1;have hq:=(ha.mono hBw).grown hc (by have:=ha.size;omega) (fun j e=>by cases e;exact hl);have hw:=hc.size;go_wp2;obtain⟨W8,hh,W0,hg⟩:=set6 D1 (.int .i64 size) (.int .i64 next) (.slice ea en ec) (.slice (some ⟨vb,0,none⟩) vn vc) (.slice ra rn rc) (.slice la ln lc);have PF:=P2.tyP hg (aa_ D1);have B8:=hq.grown hg (by have:=ha.size;omega) (fun j e=>by cases e;omega);have FT:=fun (k:Nat) (c:Array Value) (t:TypeId) (hb:Blk w k c t) (hne:t≠97)=>((hb.below ha).ty hc he hne).offB hg (B:=w.heap.size) (fun j e=>by cases e;omega) hb.lt;rw[<-hh];clear hh;refine bodyPost_ret (ad_ rfl _ W8 (w.heap.size+2) _ _ _ _ _ rfl W0 underlying35 rfl (by kernel_rfl) rfl) rfl ?_;exact⟨⟨_,0,rfl,bm_ _ _ _ _ _ _ _ _ _ _ _ _ _ _,by rw[hS.out],fun _=>by rw[hS.out];exact PF⟩,B8,FT⟩
end
section
open Go Go.RowKit Go.BigFrame Tryz
theorem aC_ {P:Program}{ops:Array Oper}{Q:Exit->Act->World->Prop}{S:World->Prop}{id:Nat}{a:Act}{w:World}(n:Nat)(hm:P.follows .mixedOrders=true)(hn:ops.size=n)
  (h:wpAnyH P .any ops Q S n (Array.replicate n false) a w.drew):(Code.region id ops true).wp P Q a w:=by
 subst hn;exact wp_region_held hm h
theorem jp_ {α β:Type}:∀ (l:List α) (P:Nat->α->β->Prop),(∀ (i:Nat) (x:α),l[i]?=some x->∃ r,P i x r)->∃ rows:List β,rows.length=l.length∧∀ (i:Nat) (x:α) (r:β),l[i]?=some x->rows[i]?=some r->P i x r
 |[],_,_=>⟨[],rfl,fun i x r h=>by simp at h⟩
 |x::t,P,h=>by
  obtain⟨r0,h0⟩:=h 0 x rfl;obtain⟨rows,hl,hr⟩:=jp_ t (fun i=>P (i+1)) (fun i y hy=>h (i+1) y (by simpa using hy));refine⟨r0::rows,by simp[hl],fun i y r h1 h2=>?_⟩
  cases i with
  |zero=>simp at h1 h2;subst h1 h2;exact h0
  |succ i=>exact hr i y r (by simpa using h1) (by simpa using h2)
structure RowA (B:Nat)(w:World)(r:IR)(y:It):Prop where
 nm:r.nm=y.nm
 ps:PtsAt w r.pa r.pn y.ps
 hd:Hd B r.pa r.pn r.pc
theorem RowA.below {B:Nat}{w w':World}{r:IR}{y:It}(h:RowA B w r y)(hb:Below w.heap.size w w'):RowA B w' r y:=⟨h.nm,h.ps.below hb,h.hd⟩
theorem ItsAt.rowsA {B:Nat}{w:World}{a:Option Addr}{n:Nat}{l:List It}(h:ItsAt B w a n l):∃ rows:List IR,SlAt irs 2 w a n rows∧rows.length=n∧∀ (i:Nat) (y:It) (r:IR),l[i]?=some y->rows[i]?=some r->RowA B w r y:=by
 obtain⟨rows,hl,hr⟩:=jp_ l (fun i y (r:IR)=>(∃ b o,a=some ⟨b,o,none⟩∧w.cell? ⟨b,o+i*2,none⟩=some (.string r.nm)∧w.cell? ⟨b,o+i*2+1,none⟩=some (.slice r.pa r.pn r.pc))∧RowA B w r y) (fun i y hy=>by
  obtain⟨b,o,pa,pn,pc,ha,c0,c1,hp,hh,_⟩:=h.cell i y hy;exact⟨⟨y.nm,pa,pn,pc⟩,⟨b,o,ha,c0,c1⟩,⟨rfl,hp,hh⟩⟩)
 refine⟨rows,⟨by rw[hl,h.len],fun i r hb=>?_⟩,by rw[hl,h.len],fun i y r h1 h2=>(hr i y r h1 h2).2⟩;have hi:=(Zb.1 hb).1;rw[hl] at hi;obtain⟨⟨b,o,ha,c0,c1⟩,_⟩:=hr i l[i] r (by simp[hi]) hb;refine⟨b,o,ha,fun j v hv=>?_⟩;rcases j with _ | _ | j
 ·simp[irs] at hv;subst hv;exact c0
 ·simp[irs] at hv;subst hv;exact c1
 ·simp[irs] at hv
theorem Hd.args {B:Nat}{a:Option Addr}{n cap:Nat}(h:Hd B a n cap)(hB:0<B):(∀ ad,a=some ad->ad.spot=none)∧(a=none->n=0∧cap=0):=by
 obtain⟨h1,h2,h3⟩:=h;obtain⟨h4,h5⟩:=h3 hB;exact⟨h5,fun e=>by have:=h4 e;omega⟩
theorem er_ (B:Nat)(hB:0<B)(a:Option Addr)(n cap:Nat)(its:List It)(w:World)(h:ItsAt B w a n its)(hh:Hd B a n cap)(hn:n<=4194304)(hp:∀ y∈its,y.ps.length<=4194304):
  Calls prog 84 #[.slice a n cap] w fun e w'=>(∃ a' cap' rows,e=.returned (.slice a' n cap')∧ResAt irs 2 156 w' w.heap.size a' n cap' rows∧RowsT w.heap.size w' rows its∧(bkI rows).Nodup)∧Below w.heap.size w w':=by
 obtain⟨rows0,S0,hK,hE⟩:=h.rowsA;have hc:Hid (its.length=n):=h.len;obtain⟨k1,k2⟩:=hh.args hB;clear h hh;go_enter func84,ntmps84
 go_wp2_with fail
 refine (nk_ a n cap rows0 w S0 hn k1 k2).mono ?_;rintro e w1 ⟨⟨a1,c1,rfl,R1⟩,hu⟩
 go_wp2_with fail
 go_loopw [3,8] (fun _ ix wr=>∃ (k:Nat) (rows:List IR),k<=n∧ix=.int .i64 k∧ResAt irs 2 156 wr w.heap.size a1 n c1 rows∧Hid (∀ (i:Nat) (r:IR) (y:It),i<k->rows[i]?=some r->its[i]?=some y->RowT w.heap.size wr r y)∧Hid (∀ (i:Nat) (r:IR),k<=i->rows[i]?=some r->rows0[i]?=some r)∧Hid (∀ (i j:Nat) (r s:IR) (x y:Addr),i<k->j<k->i≠j->rows[i]?=some r->rows[j]?=some s->r.pa=some x->s.pa=some y->x.block≠y.block)∧Below w.heap.size w wr) (fun _ ix _=>n-(intOf ix).toNat)
 case atStart=>exact⟨0,rows0,Zg _,rfl,R1,fun i r y hi=>by omega,fun i r _ hr=>hr,fun i j r s x y hi=>by omega,hu⟩
 case round=>
  clear R1 hu;obtain⟨k,rows,hk,rfl,R,ha,hb,hf,hq⟩:=hrel;have hH:rows.length=n:=R.sl.len;by_cases hlt:k<n
  ·have hO:(k:Int)<n:=by omega
   have hN:(0:Int)<=k:=by omega
   obtain⟨b,rfl,hF,hM,hL⟩:=R.addr (by omega);have hm:k<rows.length:=by omega
   obtain⟨r,hr⟩:∃ r,rows[k]?=some r:=⟨rows[k],by simp[hm]⟩;have hD:k<its.length:=by rw[hc.out];exact hlt
   obtain⟨y,hy⟩:∃ y,its[k]?=some y:=⟨its[k],by simp[hD]⟩;have hA:=(hE k y r hy (hb.out k r (Zd _) hr)).below hq;have x1:wr.cell? ⟨b,k*2+1,none⟩=some (.slice r.pa r.pn r.pc):=R.cellAt hr rfl;have hJ:r.pn<=4194304:=by rw[<-hA.ps.len];exact hp y (Zc hy)
   obtain⟨q1,q2⟩:=hA.hd.args hB
   go_wp2_with fail
   refine (nl_ r.pa r.pn r.pc y.ps wr hA.ps hJ q1 q2).mono ?_;rintro e w2 ⟨⟨a2,c2,rfl,R2⟩,ht⟩;have RR:=R.below ht;have hC:=chain hq ht;have hx:w.heap.size<=wr.heap.size:=hq.size;obtain⟨cc,hs⟩:=RR.blkAt;have x2:w2.cell? ⟨b,k*2+1,none⟩=some (.slice r.pa r.pn r.pc):=RR.cellAt hr rfl;have f2:=hs.frozen (k*2+1);clear x1;go_wp2;have hg:w2.grownBy (w2.setCell ⟨b,k*2+1,none⟩ (.slice a2 r.pn c2)) (some b):=af_ (World.grownBy.refl _ _) _ _;have R3:=RR.set1 (x':=⟨r.nm,a2,r.pn,c2⟩) (v:=.slice a2 r.pn c2) aI_ hr (j:=1) (by decide) rfl;have R4:=(R2.ty hg (aa_ hs) (by decide)).mono hx;have hI:=ao_ hC hg hF
   have hw:Hid (∀ (i:Nat) (r':IR) (y':It),i<k+1->(rows.set k ⟨r.nm,a2,r.pn,c2⟩)[i]?=some r'->its[i]?=some y'->RowT w.heap.size (w2.setCell ⟨b,k*2+1,none⟩ (.slice a2 r.pn c2)) r' y'):=fun i r' y' hi h1 h2=>by
    by_cases hik:k=i
    ·subst hik;rw[Zx hm] at h1
     cases h1
     rw[hy] at h2
     cases h2
     exact⟨hA.nm,R4⟩
    ·rw[ZJ hik] at h1
     have:=(ha.out i r' y' (by omega) h1 h2).below ht
     exact⟨this.nm,this.ps.ty hg (aa_ hs) (by decide)⟩
   have hv:Hid (∀ (i:Nat) (r':IR),k+1<=i->(rows.set k ⟨r.nm,a2,r.pn,c2⟩)[i]?=some r'->rows0[i]?=some r'):=fun i r' hi h1=>by
    rw[ZJ (by omega)] at h1;exact hb.out i r' (by omega) h1
   have he:∀ (i:Nat) (r':IR) (x:Addr),i<k->rows[i]?=some r'->r'.pa=some x->x.block<wr.heap.size:=fun i r' x hi h1 h2=>by
    have hG:i<its.length:=by rw[hc.out];omega
    exact ((ha.out i r' its[i] hi h1 (by simp[hG])).ps.block x h2).2
   have hl:∀ x,a2=some x->wr.heap.size<=x.block:=fun x e=>(R2.block x e).1
   have hz:Hid (∀ (i j:Nat) (r' s:IR) (x y:Addr),i<k+1->j<k+1->i≠j->(rows.set k ⟨r.nm,a2,r.pn,c2⟩)[i]?=some r'->(rows.set k ⟨r.nm,a2,r.pn,c2⟩)[j]?=some s->r'.pa=some x->s.pa=some y->x.block≠y.block):=fun i j r' s x y hi hj ho h1 h2 e1 e2=>by
    by_cases hik:k=i
    ·subst hik;rw[Zx hm] at h1
     cases h1
     rw[ZJ ho] at h2;have q1:=hl x e1;have q2:=he j s y (by omega) h2 e2;omega
    ·rw[ZJ hik] at h1;have q2:=he i r' x (by omega) h1 e1;by_cases hjk:k=j
     ·subst hjk;rw[Zx hm] at h2
      cases h2
      have q1:=hl y e2;omega
     ·rw[ZJ hjk] at h2;exact hf.out i j r' s x y (by omega) (by omega) ho h1 h2 e1 e2
   go_roundw
   case rel=>exact⟨k+1,_,by omega,by go_num,R3,hw,hv,hz,hI⟩
   case measure=>simp[intOf];omega
  ·obtain rfl:k=n:=by omega
   go_wp2;go_returns;exact⟨⟨a1,c1,rows,rfl,R,⟨by rw[hH,hc.out],fun i r y h1 h2=>ha.out i r y (by have:=(Zb.1 h1).1;omega) h1 h2⟩,ng_ (fun i j r s x y ho h1 h2 e1 e2=>hf.out i j r s x y (by have:=(Zb.1 h1).1;omega) (by have:=(Zb.1 h2).1;omega) ho h1 h2 e1 e2)⟩,hq⟩
structure RowW (B:Nat)(w:World)(r:VR)(y:Vo):Prop where
 id:r.id=y.id
 nm:r.nm=y.nm
 fx:r.fx=y.fx
 its:ItsAt B w r.pa r.pn y.its
 hd:Hd B r.pa r.pn r.pc
theorem RowW.below {B:Nat}{w w':World}{r:VR}{y:Vo}(h:RowW B w r y)(hb:Below w.heap.size w w'):RowW B w' r y:=⟨h.id,h.nm,h.fx,h.its.below hb,h.hd⟩
theorem VsAt.rowsA {B:Nat}{w:World}{a:Option Addr}{n:Nat}{l:List Vo}(h:VsAt B w a n l):∃ rows:List VR,SlAt vrs 4 w a n rows∧rows.length=n∧∀ (i:Nat) (y:Vo) (r:VR),l[i]?=some y->rows[i]?=some r->RowW B w r y:=by
 obtain⟨rows,hl,hr⟩:=jp_ l (fun i y (r:VR)=>(∃ b o,a=some ⟨b,o,none⟩∧w.cell? ⟨b,o+i*4,none⟩=some (.int .i64 r.id)∧w.cell? ⟨b,o+i*4+1,none⟩=some (.string r.nm)∧w.cell? ⟨b,o+i*4+2,none⟩=some (.bool r.fx)∧w.cell? ⟨b,o+i*4+3,none⟩=some (.slice r.pa r.pn r.pc))∧RowW B w r y) (fun i y hy=>by
  obtain⟨b,o,pa,pn,pc,ha,c0,c1,c2,c3,hi,hh,_⟩:=h.cell i y hy;exact⟨⟨y.id,y.nm,y.fx,pa,pn,pc⟩,⟨b,o,ha,c0,c1,c2,c3⟩,⟨rfl,rfl,rfl,hi,hh⟩⟩)
 refine⟨rows,⟨by rw[hl,h.len],fun i r hb=>?_⟩,by rw[hl,h.len],fun i y r h1 h2=>(hr i y r h1 h2).2⟩;have hi:=(Zb.1 hb).1;rw[hl] at hi;obtain⟨⟨b,o,ha,c0,c1,c2,c3⟩,_⟩:=hr i l[i] r (by simp[hi]) hb;refine⟨b,o,ha,fun j v hv=>?_⟩;rcases j with _ | _ | _ | _ | j
 ·simp[vrs] at hv;subst hv;exact c0
 ·simp[vrs] at hv;subst hv;exact c1
 ·simp[vrs] at hv;subst hv;exact c2
 ·simp[vrs] at hv;subst hv;exact c3
 ·simp[vrs] at hv
def SepV (rows:List VR):Prop:=∀ (i j:Nat) (r s:VR) (x y:Addr),i≠j->rows[i]?=some r->rows[j]?=some s->r.pa=some x->s.pa=some y->x.block≠y.block
def PoolU (B:Nat)(w:World)(v:Value)(p:Po)(rows:List VR):Prop:=
 ∃ ea en ec va vn vc ra rn rc la ln lc,v=.agg #[.int .i64 p.size,.int .i64 p.next,.slice ea en ec,.slice va vn vc,.slice ra rn rc,.slice la ln lc]∧
  ResAt Ex.cs 2 103 w B ea en ec p.ex∧(ResAt vrs 4 97 w B va vn vc rows∧VolsT B w rows p.vs)∧ResAt Ct.cs 4 107 w B ra rn rc p.rf∧ResAt Ct.cs 4 107 w B la ln lc p.lt∧(∀ x y,ra=some x->la=some y->0<rc->0<lc->x.block≠y.block)∧SepV rows∧NP w rows
theorem PoolU.t {B:Nat}{w:World}{v:Value}{p:Po}{rows:List VR}(h:PoolU B w v p rows):PoolT B w v p:=by
 obtain⟨ea,en,ec,va,vn,vc,ra,rn,rc,la,ln,lc,hv,h1,h2,h3,h4,h5,_⟩:=h;exact⟨ea,en,ec,va,vn,vc,ra,rn,rc,la,ln,lc,rows,hv,h1,h2,h3,h4,h5⟩
theorem RowT.low {B k:Nat}{w w':World}{r:IR}{y:It}(h:RowT B w r y)(hg:w.grownBy w' (some k))(hk:k<B):RowT B w' r y:=⟨h.nm,h.ps.grown hg (fun ad e=>by have:=(h.ps.block ad e).1;omega)⟩
theorem VolT.low {B k:Nat}{w w':World}{r:VR}{y:Vo}(h:VolT B w r y)(hg:w.grownBy w' (some k))(hk:k<B):VolT B w' r y:=by
 obtain⟨e1,e2,e3,rs,R,T⟩:=h;exact⟨e1,e2,e3,rs,R.grown hg (fun ad e=>by have:=(R.block ad e).1;omega),T.len,fun i r y h1 h2=>(T.at' i r y h1 h2).low hg hk⟩
theorem VolsT.low {B k:Nat}{w w':World}{rows:List VR}{l:List Vo}(h:VolsT B w rows l)(hg:w.grownBy w' (some k))(hk:k<B):VolsT B w' rows l:=⟨h.len,fun i r y h1 h2=>(h.at' i r y h1 h2).low hg hk⟩
def DimU (p:Po):Prop:=p.ex.length<=4194304∧p.vs.length<=4194304∧p.rf.length<=4194304∧p.lt.length<=4194304∧∀ v∈p.vs,v.its.length<=4194304∧∀ y∈v.its,y.ps.length<=4194304
end
end Go.Proofs.YtbbhcnjhohidnaaGreatDoor
