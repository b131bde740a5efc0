/- Ops as plain data: when one is right; names and lengths. -/
import Derived.Lib.Overlaps
import Derived.Laws.CopyOwn
import Derived.Test.YtahenegmbmnmjaaGreatDoorU10
set_option maxHeartbeats 20000000
set_option maxRecDepth 100000
namespace Go.Proofs.YtahenegmbmnmjaaGreatDoor
section
open Go Go.RowKit Go.BigFrame Tryz
variable{α:Type}{B b cap i n sz:Nat}{t:TypeId}{v:Value}{w w':World}{l:List α}{cs:α->List Value}
theorem fu_ (B:Nat)(hB0:0<B)(v:Value)(p:Po)(o:Opr)(w:World)(h:Am B w v p)(hBw:B<=w.heap.size)(hd:AC p)(hnx:1<=p.next∧p.next<=1000000000)(hk:o.k=6)(i:Nat)(hso:volI p.vs o.vol=some i)(hto:volI p.vs o.to=none):
  Calls prog 112 #[v,.agg #[.int .i64 o.k,.string o.vol,.string o.file,.string o.to,.string o.into,.int .i64 o.at',.int .i64 o.fr,.int .i64 o.ln,.string o.data]] w fun e w'=>(∃ v' c,e=.returned (.tuple #[v',.int .i64 c])∧Bh v'∧c=(Az p o).1∧(c=0->Am B w' v' (Az p o).2))∧Below B w w'∧FrV w w':=by
 obtain⟨ea,en,ec,va,vn,vc,ra,rn,rc,la,ln,lc,rows,rfl,h1,⟨h2,h3⟩,h4,h5,h6⟩:=h;obtain⟨z1,z2,z3,z4,z5,z6,z7,z8⟩:=hd;have hV:Bb B w va vn p.vs:=h3.rows.vs h2;rw[hV.len] at z3;obtain⟨size,next,ex,vs,rf,lt⟩:=p;obtain⟨k,vol,file,tt,into,at0,fr,ln0,data⟩:=o;simp only at h1 h2 h3 h4 h5 hV z4 z3 hnx hk ⊢;have _:=hB0;have _:=hnx;have _:=hBw;have hz:vs.length=vn:=hV.len;have hA:rows.length=vn:=h2.sl.len;subst hk;simp only at hso;have hi:=ap_ hso;have hv:i<vn:=by omega
 have hx:vs[i]?=some vs[i]:=by simp[hi]
 have hE:(0:Int)<=(i:Int):=by omega
 have hw:(i:Int)<vn:=by omega
 simp only at hto;obtain⟨m1,m2,m3⟩:=z4 _ (Zc hx);have hr:rows[i]?=some (rows[i]'(by omega)):=by simp[hA,hv]
 have VT:=h3.at' i _ _ hr hx;generalize rows[i]'(by omega)=r0 at *;generalize vs[i]=x at *;obtain⟨rid,rnm,rfx,pa0,pn0,pc0⟩:=r0;obtain⟨e1,e2,e3,irows,RI,TI⟩:=VT;simp only at e1 e2 e3 RI;subst e1 e2 e3;obtain⟨vb,rfl,hL,hC,hD⟩:=h2.addr (by omega);have hS:Hid (Az ⟨size,next,ex,vs,rf,lt⟩ ⟨6,vol,file,tt,into,at0,fr,ln0,data⟩=(0,⟨size,next+1,ex,vs++[⟨next,tt,false,x.its⟩],rf,lt⟩)):=by show _=_;simp[Az,hso,hx,hto]
 generalize Az ⟨size,next,ex,vs,rf,lt⟩ ⟨6,vol,file,tt,into,at0,fr,ln0,data⟩=R at *;have hM:IntKind.i64.wrap (next+1)=next+1:=by rw[Ys];omega
 go_enter func112,ntmps112
 go_wp2_with fail
 refine (ak_ B size next ea en ec (some ⟨vb,0,none⟩) vn vc ra rn rc la ln lc vs vol _ (hV.below (by go_grown)) z3).mono ?_;rintro e w1 ⟨rfl,hq⟩;obtain⟨C,O,D,hl,hF⟩:=bx3 hq;clear hq;obtain⟨c0,c1,c2,c3,c4,c5⟩:=C.six';have o0:w1.cell? ⟨w.heap.size+1,0,none⟩=some (.int .i64 6):=O.cell 0;have o1:w1.cell? ⟨w.heap.size+1,1,none⟩=some (.string vol):=O.cell 1;have o2:w1.cell? ⟨w.heap.size+1,2,none⟩=some (.string file):=O.cell 2;have o3:w1.cell? ⟨w.heap.size+1,3,none⟩=some (.string tt):=O.cell 3;obtain⟨x0,x1,x2,x3,x4,x5⟩:=D.six';obtain⟨f0,f1,f2,f3,f4,f5⟩:=fz6 D;rw[hso];simp only[Bp]
 go_wp2_with fail
 refine (ak_ B size next ea en ec (some ⟨vb,0,none⟩) vn vc ra rn rc la ln lc vs tt _ (hV.below hl) z3).mono ?_;rintro e wA ⟨rfl,hj⟩;rw[hto];simp only[Bp];have C':=C.below hj;have D':=D.below hj;have O':=O.below hj;have he:=Aa hl hj;have hH:=hj.size;clear c0 c1 c2 c3 c4 c5 o0 o1 o2 o3 x0 x1 x2 x3 x4 x5 f0 f1 f2 f3 f4 f5 C D O;obtain⟨c0,c1,c2,c3,c4,c5⟩:=C'.six';have o0:wA.cell? ⟨w.heap.size+1,0,none⟩=some (.int .i64 6):=O'.cell 0;have o2:wA.cell? ⟨w.heap.size+1,2,none⟩=some (.string file):=O'.cell 2;have o3:wA.cell? ⟨w.heap.size+1,3,none⟩=some (.string tt):=O'.cell 3;obtain⟨x0,x1,x2,x3,x4,x5⟩:=D'.six';obtain⟨f0,f1,f2,f3,f4,f5⟩:=fz6 D';have RA:=h2.below he;have e0:wA.cell? ⟨vb,i*4,none⟩=some (.int .i64 x.id):=RA.cellAt (j:=0) hr rfl;have e1:wA.cell? ⟨vb,i*4+1,none⟩=some (.string x.nm):=RA.cellAt (j:=1) hr rfl;have e2:wA.cell? ⟨vb,i*4+2,none⟩=some (.bool x.fx):=RA.cellAt (j:=2) hr rfl;have e3:wA.cell? ⟨vb,i*4+3,none⟩=some (.slice pa0 pn0 pc0):=RA.cellAt (j:=3) hr rfl;have IA:Bg B wA pa0 pn0 x.its:=(TI.below he).rows.its (RI.below he);rw[IA.len] at m2
 go_wp2_with fail
 refine (eq_ B hB0 x.id x.nm x.fx x.its pa0 pn0 pc0 _ IA m2 (fun y hy=>(m3 y hy).2)).mono ?_;rintro e wB ⟨⟨pa,pc,jrows,rfl,RJ,TJ⟩,hg⟩;have hn:=Aa he hg;have hI:=hg.size;have hh:Below wB.heap.size wB (wB.alloc (.cells #[.int .i64 next,.string tt,.bool false,.slice pa pn0 pc] 62)):=(Yg _ _).alloc (Zd _) _;have hJ:=hh.size;have ha:=Aa hn hh;have CX:=(C'.below hg).below hh;have DX:=(D'.below hg).below hh;have RX:=h2.below ha;have k1:=Ab hg c1;have k3:=Ab hg c3;have k9:=Ab hg o3;have n0:¬ w.heap.size=wB.heap.size:=by omega
 have n1:¬ w.heap.size+1=wB.heap.size:=by omega
 have n2:¬ wB.heap.size=w.heap.size:=by omega
 have n3:¬ wB.heap.size=w.heap.size+1:=by omega
 have k1':=fun ob=>Ah (w:=wB) ob k1;have k3':=fun ob=>Ah (w:=wB) ob k3;have k9':=fun ob=>Ah (w:=wB) ob k9
 go_wp2_with (at_builtin;refine ag_ rfl (fun K hK=>dC_ _ _ rfl B (some ⟨vb,0,none⟩) vn vc rows rfl (RX.alloc _) _ 1 1 [(⟨next,tt,false,pa,pn0,pc⟩:VR)] rfl (fQ_ _ (⟨next,tt,false,pa,pn0,pc⟩:VR) _ _ (by simp)) (fun ad h=>(by cases h;rfl)) (fun h=>(by cases h)) (vn+1) rfl (by omega) (by simp;omega) (fun a2 cap2 w2 R2 hc=>hK _ _ ?_));have hp:∀ j,Value.ownBlock (.slice (some ⟨vb,0,none⟩) vn vc)=some j->B<=j:=aG_ fun ad hu=>(h2.block ad hu).1;have hf:=(RX.alloc (.cells #[.int .i64 next,.string tt,.bool false,.slice pa pn0 pc] 62)).rowTy (m:=vn) (k:=vc);have hB:=hc.size;have C2:=(CX.alloc (.cells #[.int .i64 next,.string tt,.bool false,.slice pa pn0 pc] 62)).ty hc hf (by decide);have D2:=(DX.alloc (.cells #[.int .i64 next,.string tt,.bool false,.slice pa pn0 pc] 62)).ty hc hf (by decide);have ht:=((ha.alloc ha.size (.cells #[.int .i64 next,.string tt,.bool false,.slice pa pn0 pc] 62)).mono hBw).grown hc (by simp;omega) hp;have P2:Am B w2 (.agg #[.int .i64 size,.int .i64 (next+1),.slice ea en ec,.slice a2 (vn+1) cap2,.slice ra rn rc,.slice la ln lc]) ⟨size,next+1,ex,vs++[⟨next,tt,false,x.its⟩],rf,lt⟩:=⟨ea,en,ec,a2,vn+1,cap2,ra,rn,rc,la,ln,lc,rows++[(⟨next,tt,false,pa,pn0,pc⟩:VR)],rfl,((h1.below ha).alloc (.cells #[.int .i64 next,.string tt,.bool false,.slice pa pn0 pc] 62)).ty hc hf (by decide),⟨R2,((h3.below (ha.alloc ha.size (.cells #[.int .i64 next,.string tt,.bool false,.slice pa pn0 pc] 62))).ty hc hf (by decide) (by decide)).snoc ⟨rfl,rfl,rfl,jrows,(((RJ.below hh).alloc (.cells #[.int .i64 next,.string tt,.bool false,.slice pa pn0 pc] 62)).ty hc hf (by decide)).mono (by omega),((TJ.below (hh.alloc hh.size (.cells #[.int .i64 next,.string tt,.bool false,.slice pa pn0 pc] 62))).ty hc hf (by decide)).mono (by omega)⟩⟩,((h4.below ha).alloc (.cells #[.int .i64 next,.string tt,.bool false,.slice pa pn0 pc] 62)).ty hc hf (by decide),((h5.below ha).alloc (.cells #[.int .i64 next,.string tt,.bool false,.slice pa pn0 pc] 62)).ty hc hf (by decide),h6⟩;obtain⟨y0,y1,y2,y3,y4,y5⟩:=C2.six';obtain⟨q0,q1,q2,q3,q4,q5⟩:=D2.six';have g1:=C2.frozen 1;have g3:=C2.frozen 3;have m0:=D2.frozen 0;have m1:=D2.frozen 1;have m2:=D2.frozen 2;have m3:=D2.frozen 3;have m4:=D2.frozen 4;have m5:=D2.frozen 5)
 simp only[YN] at hB;have hm:w2.grownBy ((w2.setCell ⟨w.heap.size,3,none⟩ (.slice a2 (vn+1) cap2)).setCell ⟨w.heap.size,1,none⟩ (.int .i64 (next+1))) (some w.heap.size):=af_ (B3 w2 w.heap.size 3 (.slice a2 (vn+1) cap2)) 1 (.int .i64 (next+1));have D3:Blk ((w2.setCell ⟨w.heap.size,3,none⟩ (.slice a2 (vn+1) cap2)).setCell ⟨w.heap.size,1,none⟩ (.int .i64 (next+1))) (w.heap.size+2) _ _:=(hm.block _ D2.lt (by simp only[ne_eq,Zo];omega)).trans D2;obtain⟨W8,hs,W0,ho⟩:=AV D3 (.int .i64 size) (.int .i64 (next+1)) (.slice ea en ec) (.slice a2 (vn+1) cap2) (.slice ra rn rc) (.slice la ln lc);have PF:=(P2.tyP hm (aa_ C2)).tyP ho (aa_ D3);have hG:=hm.size;have B8:=(ht.grown hm (by omega) (fun j e=>by cases e;omega)).grown ho (by omega) (fun j e=>by cases e;omega);have FT:=fun (k:Nat) (c:Array Value) (t:TypeId) (hb:Blk w k c t) (hne:t≠62)=>(((((hb.below ha).alloc (.cells #[.int .i64 next,.string tt,.bool false,.slice pa pn0 pc] 62)).ty hc hf hne)).offB hm (B:=w.heap.size) (fun j e=>by cases e;omega) hb.lt).offB ho (B:=w.heap.size) (fun j e=>by cases e;omega) hb.lt;rw[<-hs];clear hs;refine YW (ad_ rfl _ W8 (w.heap.size+2) _ _ _ _ _ rfl W0 underlying35 rfl (by kernel_rfl) rfl) rfl ?_;exact⟨⟨_,0,rfl,bm_ _ _ _ _ _ _ _ _ _ _ _ _ _ _,by rw[hS.out],fun _=>by rw[hS.out];exact PF⟩,B8,FT⟩
theorem Ae.blkAt (h:Ae cs sz t w B (some ⟨b,0,none⟩) n cap l):∃ c,Blk w b c t:=by
 rcases h.own with⟨h0,_⟩ | ⟨b',e,_,_,_,c,hc,_⟩
 ·cases h0
 ·cases e;exact⟨c,hc⟩
theorem e0_ (B:Nat)(hB0:0<B)(v:Value)(p:Po)(o:Opr)(w:World)(h:Am B w v p)(hBw:B<=w.heap.size)(hd:AC p)(hnx:1<=p.next∧p.next<=1000000000)(hk:o.k=8)(i:Nat)(hso:volI p.vs o.vol=some i)(hfx:∀ x:Vo,p.vs[i]?=some x->x.fx=true):
  Calls prog 112 #[v,.agg #[.int .i64 o.k,.string o.vol,.string o.file,.string o.to,.string o.into,.int .i64 o.at',.int .i64 o.fr,.int .i64 o.ln,.string o.data]] w fun e w'=>(∃ v' c,e=.returned (.tuple #[v',.int .i64 c])∧Bh v'∧c=(Az p o).1∧(c=0->Am B w' v' (Az p o).2))∧Below B w w'∧FrV w w':=by
 obtain⟨ea,en,ec,va,vn,vc,ra,rn,rc,la,ln,lc,rows,rfl,h1,⟨h2,h3⟩,h4,h5,h6⟩:=h;obtain⟨z1,z2,z3,z4,z5,z6,z7,z8⟩:=hd;have hV:Bb B w va vn p.vs:=h3.rows.vs h2;rw[hV.len] at z3;obtain⟨size,next,ex,vs,rf,lt⟩:=p;obtain⟨k,vol,file,tt,into,at0,fr,ln0,data⟩:=o;simp only at h1 h2 h3 h4 h5 hV z4 z3 hnx hk ⊢;have _:=hB0;have _:=hnx;have _:=hBw;have hj:vs.length=vn:=hV.len;have hl:rows.length=vn:=h2.sl.len;subst hk;simp only at hso;have hi:=ap_ hso;have hg:i<vn:=by omega
 have hx:vs[i]?=some vs[i]:=by simp[hi]
 have ho:(0:Int)<=(i:Int):=by omega
 have hh:(i:Int)<vn:=by omega
 have hr:rows[i]?=some (rows[i]'(by omega)):=by simp[hl,hg]
 have VT:=h3.at' i _ _ hr hx;generalize rows[i]'(by omega)=r0 at *;generalize vs[i]=x at *;obtain⟨rid,rnm,rfx,pa0,pn0,pc0⟩:=r0;obtain⟨e1,e2,e3,irows,RI,TI⟩:=VT;simp only at e1 e2 e3 RI;subst e1 e2 e3;obtain⟨vb,rfl,hq,hm,hn⟩:=h2.addr (by omega);simp only at hfx;have hf:=hfx _ hx;clear hfx;have hS:Hid (Az ⟨size,next,ex,vs,rf,lt⟩ ⟨8,vol,file,tt,into,at0,fr,ln0,data⟩=(6,⟨size,next,ex,vs,rf,lt⟩)):=by show _=_;simp[Az,hso,hx,hf]
 generalize Az ⟨size,next,ex,vs,rf,lt⟩ ⟨8,vol,file,tt,into,at0,fr,ln0,data⟩=R at *;go_enter func112,ntmps112
 go_wp2_with fail
 refine (ak_ B size next ea en ec (some ⟨vb,0,none⟩) vn vc ra rn rc la ln lc vs vol _ (hV.below (by go_grown)) z3).mono ?_;rintro e w1 ⟨rfl,hb⟩;obtain⟨C,O,D,ha,hp⟩:=bx3 hb;clear hb;obtain⟨c0,c1,c2,c3,c4,c5⟩:=C.six';have o0:w1.cell? ⟨w.heap.size+1,0,none⟩=some (.int .i64 8):=O.cell 0;have o1:w1.cell? ⟨w.heap.size+1,1,none⟩=some (.string vol):=O.cell 1;have o2:w1.cell? ⟨w.heap.size+1,2,none⟩=some (.string file):=O.cell 2;have o3:w1.cell? ⟨w.heap.size+1,3,none⟩=some (.string tt):=O.cell 3;obtain⟨x0,x1,x2,x3,x4,x5⟩:=D.six';obtain⟨f0,f1,f2,f3,f4,f5⟩:=fz6 D;rw[hso];simp only[Bp];have RA:=h2.below ha;have e0:w1.cell? ⟨vb,i*4,none⟩=some (.int .i64 x.id):=RA.cellAt (j:=0) hr rfl;have e1:w1.cell? ⟨vb,i*4+1,none⟩=some (.string x.nm):=RA.cellAt (j:=1) hr rfl;have e2:w1.cell? ⟨vb,i*4+2,none⟩=some (.bool x.fx):=RA.cellAt (j:=2) hr rfl;have e3:w1.cell? ⟨vb,i*4+3,none⟩=some (.slice pa0 pn0 pc0):=RA.cellAt (j:=3) hr rfl;rw[hf] at e2;go_wp2;obtain⟨W8,hc,W0,he⟩:=AV D (.int .i64 size) (.int .i64 next) (.slice ea en ec) (.slice (some ⟨vb,0,none⟩) vn vc) (.slice ra rn rc) (.slice la ln lc);have B8:=ha.grown he ha.size (fun j e=>by cases e;omega);rw[<-hc];clear hc;refine YW (ad_ rfl _ W8 (w.heap.size+2) _ _ _ _ _ rfl W0 underlying35 rfl (by kernel_rfl) rfl) rfl ?_;exact⟨⟨_,6,rfl,bm_ _ _ _ _ _ _ _ _ _ _ _ _ _ _,by rw[hS.out],fun h=>absurd h (by omega)⟩,B8.mono hBw,FrV.of B8⟩
theorem fT_ (B:Nat)(hB0:0<B)(v:Value)(p:Po)(o:Opr)(w:World)(h:Am B w v p)(hBw:B<=w.heap.size)(hd:AC p)(hnx:1<=p.next∧p.next<=1000000000)(hk:o.k=8)(i:Nat)(hso:volI p.vs o.vol=some i)(hfx:∀ x:Vo,p.vs[i]?=some x->x.fx=false):
  Calls prog 112 #[v,.agg #[.int .i64 o.k,.string o.vol,.string o.file,.string o.to,.string o.into,.int .i64 o.at',.int .i64 o.fr,.int .i64 o.ln,.string o.data]] w fun e w'=>(∃ v' c,e=.returned (.tuple #[v',.int .i64 c])∧Bh v'∧c=(Az p o).1∧(c=0->Am B w' v' (Az p o).2))∧Below B w w'∧FrV w w':=by
 obtain⟨ea,en,ec,va,vn,vc,ra,rn,rc,la,ln,lc,rows,rfl,h1,⟨h2,h3⟩,h4,h5,h6⟩:=h;obtain⟨z1,z2,z3,z4,z5,z6,z7,z8⟩:=hd;have hV:Bb B w va vn p.vs:=h3.rows.vs h2;rw[hV.len] at z3;obtain⟨size,next,ex,vs,rf,lt⟩:=p;obtain⟨k,vol,file,tt,into,at0,fr,ln0,data⟩:=o;simp only at h1 h2 h3 h4 h5 hV z4 z3 hnx hk ⊢;have _:=hB0;have _:=hnx;have _:=hBw;have ho:vs.length=vn:=hV.len;have hp:rows.length=vn:=h2.sl.len;subst hk;simp only at hso;have hi:=ap_ hso;have hm:i<vn:=by omega
 have hx:vs[i]?=some vs[i]:=by simp[hi]
 have hu:(0:Int)<=(i:Int):=by omega
 have hn:(i:Int)<vn:=by omega
 have hr:rows[i]?=some (rows[i]'(by omega)):=by simp[hp,hm]
 have VT:=h3.at' i _ _ hr hx;generalize rows[i]'(by omega)=r0 at *;generalize vs[i]=x at *;obtain⟨rid,rnm,rfx,pa0,pn0,pc0⟩:=r0;obtain⟨e1,e2,e3,irows,RI,TI⟩:=VT;simp only at e1 e2 e3 RI;subst e1 e2 e3;obtain⟨vb,rfl,hq,hs,ht⟩:=h2.addr (by omega);simp only at hfx;have hf:=hfx _ hx;clear hfx;have hS:Hid (Az ⟨size,next,ex,vs,rf,lt⟩ ⟨8,vol,file,tt,into,at0,fr,ln0,data⟩=(0,⟨size,next,ex,vs.set i ⟨x.id,x.nm,true,x.its⟩,rf,lt⟩)):=by show _=_;simp[Az,hso,hx,hf]
 generalize Az ⟨size,next,ex,vs,rf,lt⟩ ⟨8,vol,file,tt,into,at0,fr,ln0,data⟩=R at *;go_enter func112,ntmps112
 go_wp2_with fail
 refine (ak_ B size next ea en ec (some ⟨vb,0,none⟩) vn vc ra rn rc la ln lc vs vol _ (hV.below (by go_grown)) z3).mono ?_;rintro e w1 ⟨rfl,hh⟩;obtain⟨C,O,D,ha,hv⟩:=bx3 hh;clear hh;obtain⟨c0,c1,c2,c3,c4,c5⟩:=C.six';have o0:w1.cell? ⟨w.heap.size+1,0,none⟩=some (.int .i64 8):=O.cell 0;have o1:w1.cell? ⟨w.heap.size+1,1,none⟩=some (.string vol):=O.cell 1;have o2:w1.cell? ⟨w.heap.size+1,2,none⟩=some (.string file):=O.cell 2;have o3:w1.cell? ⟨w.heap.size+1,3,none⟩=some (.string tt):=O.cell 3;obtain⟨x0,x1,x2,x3,x4,x5⟩:=D.six';obtain⟨f0,f1,f2,f3,f4,f5⟩:=fz6 D;rw[hso];simp only[Bp];have RA:=h2.below ha;have e0:w1.cell? ⟨vb,i*4,none⟩=some (.int .i64 x.id):=RA.cellAt (j:=0) hr rfl;have e1:w1.cell? ⟨vb,i*4+1,none⟩=some (.string x.nm):=RA.cellAt (j:=1) hr rfl;have e2:w1.cell? ⟨vb,i*4+2,none⟩=some (.bool x.fx):=RA.cellAt (j:=2) hr rfl;have e3:w1.cell? ⟨vb,i*4+3,none⟩=some (.slice pa0 pn0 pc0):=RA.cellAt (j:=3) hr rfl;rw[hf] at e2;obtain⟨vcs,VB⟩:=RA.blkAt;have fz:=VB.frozen (i*4+2);have hc:=B3 w1 vb (i*4+2) (.bool true);have he:BA w1 (some vb) 62:=aa_ VB;have R1:Ae vrs 4 62 (w1.setCell ⟨vb,i*4+2,none⟩ (.bool true)) B (some ⟨vb,0,none⟩) vn vc (rows.set i ⟨x.id,x.nm,true,pa0,pn0,pc0⟩):=Ae.set1 a2_ RA hr (by omega) rfl;have T1:=((h3.below ha).ty hc he (by decide) (by decide)).set i (show Bd B _ ⟨x.id,x.nm,true,pa0,pn0,pc0⟩ ⟨x.id,x.nm,true,x.its⟩ from ⟨rfl,rfl,rfl,irows,(RI.below ha).ty hc he (by decide),(TI.below ha).ty hc he (by decide)⟩);have C1:=C.ty hc he (by decide);have D1:=D.ty hc he (by decide);have P2:Am B (w1.setCell ⟨vb,i*4+2,none⟩ (.bool true)) (.agg #[.int .i64 size,.int .i64 next,.slice ea en ec,.slice (some ⟨vb,0,none⟩) vn vc,.slice ra rn rc,.slice la ln lc]) ⟨size,next,ex,vs.set i ⟨x.id,x.nm,true,x.its⟩,rf,lt⟩:=⟨ea,en,ec,some ⟨vb,0,none⟩,vn,vc,ra,rn,rc,la,ln,lc,_,rfl,(h1.below ha).ty hc he (by decide),⟨R1,T1⟩,(h4.below ha).ty hc he (by decide),(h5.below ha).ty hc he (by decide),h6⟩;obtain⟨y0,y1,y2,y3,y4,y5⟩:=C1.six';obtain⟨q0,q1,q2,q3,q4,q5⟩:=D1.six';obtain⟨m0,m1,m2,m3,m4,m5⟩:=fz6 D1;have hl:=(ha.mono hBw).grown hc (by have:=ha.size;omega) (fun j e=>by cases e;exact hq);have hw:=hc.size;go_wp2;obtain⟨W8,hj,W0,hg⟩:=AV D1 (.int .i64 size) (.int .i64 next) (.slice ea en ec) (.slice (some ⟨vb,0,none⟩) vn vc) (.slice ra rn rc) (.slice la ln lc);have PF:=P2.tyP hg (aa_ D1);have B8:=hl.grown hg (by have:=ha.size;omega) (fun j e=>by cases e;omega);have FT:=fun (k:Nat) (c:Array Value) (t:TypeId) (hb:Blk w k c t) (hne:t≠62)=>((hb.below ha).ty hc he hne).offB hg (B:=w.heap.size) (fun j e=>by cases e;omega) hb.lt;rw[<-hj];clear hj;refine YW (ad_ rfl _ W8 (w.heap.size+2) _ _ _ _ _ rfl W0 underlying35 rfl (by kernel_rfl) rfl) rfl ?_;exact⟨⟨_,0,rfl,bm_ _ _ _ _ _ _ _ _ _ _ _ _ _ _,by rw[hS.out],fun _=>by rw[hS.out];exact PF⟩,B8,FT⟩
end
section
open Go Go.RowKit Go.BigFrame Tryz
theorem aC_ {P:Program}{ops:Array Oper}{Q:Exit->Act->World->Prop}{S:World->Prop}{id:Nat}{a:Act}{w:World}(n:Nat)(hm:P.follows .mixedOrders=true)(hn:ops.size=n)
  (h:wpAnyH P .any ops Q S n (Array.replicate n false) a w.drew):(Code.region id ops true).wp P Q a w:=by
 subst hn;exact wp_region_held hm h
theorem jp_ {α β:Type}:∀ (l:List α) (P:Nat->α->β->Prop),(∀ (i:Nat) (x:α),l[i]?=some x->∃ r,P i x r)->∃ rows:List β,rows.length=l.length∧∀ (i:Nat) (x:α) (r:β),l[i]?=some x->rows[i]?=some r->P i x r
 |[],_,_=>⟨[],rfl,fun i x r h=>by simp at h⟩
 |x::t,P,h=>by
  obtain⟨r0,h0⟩:=h 0 x rfl;obtain⟨rows,hl,hr⟩:=jp_ t (fun i=>P (i+1)) (fun i y hy=>h (i+1) y (by simpa using hy));refine⟨r0::rows,by simp[hl],fun i y r h1 h2=>?_⟩
  cases i with
  |zero=>simp at h1 h2;subst h1 h2;exact h0
  |succ i=>exact hr i y r (by simpa using h1) (by simpa using h2)
structure GI (B:Nat)(w:World)(r:IR)(y:It):Prop where
 nm:r.nm=y.nm
 ps:AN w r.pa r.pn y.ps
 hd:Hd B r.pa r.pn r.pc
theorem GI.below {B:Nat}{w w':World}{r:IR}{y:It}(h:GI B w r y)(hb:Below w.heap.size w w'):GI B w' r y:=⟨h.nm,h.ps.below hb,h.hd⟩
theorem Bg.rowsA {B:Nat}{w:World}{a:Option Addr}{n:Nat}{l:List It}(h:Bg B w a n l):∃ rows:List IR,AF irs 2 w a n rows∧rows.length=n∧∀ (i:Nat) (y:It) (r:IR),l[i]?=some y->rows[i]?=some r->GI B w r y:=by
 obtain⟨rows,hl,hr⟩:=jp_ l (fun i y (r:IR)=>(∃ b o,a=some ⟨b,o,none⟩∧w.cell? ⟨b,o+i*2,none⟩=some (.string r.nm)∧w.cell? ⟨b,o+i*2+1,none⟩=some (.slice r.pa r.pn r.pc))∧GI B w r y) (fun i y hy=>by
  obtain⟨b,o,pa,pn,pc,ha,c0,c1,hp,hh,_⟩:=h.cell i y hy;exact⟨⟨y.nm,pa,pn,pc⟩,⟨b,o,ha,c0,c1⟩,⟨rfl,hp,hh⟩⟩)
 refine⟨rows,⟨by rw[hl,h.len],fun i r hb=>?_⟩,by rw[hl,h.len],fun i y r h1 h2=>(hr i y r h1 h2).2⟩;have hi:=(Zb.1 hb).1;rw[hl] at hi;obtain⟨⟨b,o,ha,c0,c1⟩,_⟩:=hr i l[i] r (by simp[hi]) hb;refine⟨b,o,ha,fun j v hv=>?_⟩;rcases j with _ | _ | j
 ·simp[irs] at hv;subst hv;exact c0
 ·simp[irs] at hv;subst hv;exact c1
 ·simp[irs] at hv
theorem Hd.args {B:Nat}{a:Option Addr}{n cap:Nat}(h:Hd B a n cap)(hB:0<B):(∀ ad,a=some ad->ad.spot=none)∧(a=none->n=0∧cap=0):=by
 obtain⟨h1,h2,h3⟩:=h;obtain⟨h4,h5⟩:=h3 hB;exact⟨h5,fun e=>by have:=h4 e;omega⟩
theorem er_ (B:Nat)(hB:0<B)(a:Option Addr)(n cap:Nat)(its:List It)(w:World)(h:Bg B w a n its)(hh:Hd B a n cap)(hn:n<=4194304)(hp:∀ y∈its,y.ps.length<=4194304):
  Calls prog 130 #[.slice a n cap] w fun e w'=>(∃ a' cap' rows,e=.returned (.slice a' n cap')∧Ae irs 2 125 w' w.heap.size a' n cap' rows∧AE w.heap.size w' rows its∧(bkI rows).Nodup)∧Below w.heap.size w w':=by
 obtain⟨rows0,S0,hN,hG⟩:=h.rowsA;have hc:Hid (its.length=n):=h.len;obtain⟨k1,k2⟩:=hh.args hB;clear h hh;go_enter func130,ntmps130
 go_wp2_with fail
 refine (nk_ a n cap rows0 w S0 hn k1 k2).mono ?_;rintro e w1 ⟨⟨a1,c1,rfl,R1⟩,hu⟩
 go_wp2_with fail
 go_loopw [3,8] (fun _ ix wr=>∃ (k:Nat) (rows:List IR),k<=n∧ix=.int .i64 k∧Ae irs 2 125 wr w.heap.size a1 n c1 rows∧Hid (∀ (i:Nat) (r:IR) (y:It),i<k->rows[i]?=some r->its[i]?=some y->BY w.heap.size wr r y)∧Hid (∀ (i:Nat) (r:IR),k<=i->rows[i]?=some r->rows0[i]?=some r)∧Hid (∀ (i j:Nat) (r s:IR) (x y:Addr),i<k->j<k->i≠j->rows[i]?=some r->rows[j]?=some s->r.pa=some x->s.pa=some y->x.block≠y.block)∧Below w.heap.size w wr) (fun _ ix _=>n-(intOf ix).toNat)
 case atStart=>exact⟨0,rows0,Zg _,rfl,R1,fun i r y hi=>by omega,fun i r _ hr=>hr,fun i j r s x y hi=>by omega,hu⟩
 case round=>
  clear R1 hu;obtain⟨k,rows,hk,rfl,R,ha,hb,hl,hm⟩:=hrel;have hI:rows.length=n:=R.sl.len;by_cases hlt:k<n
  ·have hL:(k:Int)<n:=by omega
   have hM:(0:Int)<=k:=by omega
   obtain⟨b,rfl,hw,hO,hK⟩:=R.addr (by omega);have hq:k<rows.length:=by omega
   obtain⟨r,hr⟩:∃ r,rows[k]?=some r:=⟨rows[k],by simp[hq]⟩;have hE:k<its.length:=by rw[hc.out];exact hlt
   obtain⟨y,hy⟩:∃ y,its[k]?=some y:=⟨its[k],by simp[hE]⟩;have hA:=(hG k y r hy (hb.out k r (Zd _) hr)).below hm;have x1:wr.cell? ⟨b,k*2+1,none⟩=some (.slice r.pa r.pn r.pc):=R.cellAt hr rfl;have hF:r.pn<=4194304:=by rw[<-hA.ps.len];exact hp y (Zc hy)
   obtain⟨q1,q2⟩:=hA.hd.args hB
   go_wp2_with fail
   refine (nl_ r.pa r.pn r.pc y.ps wr hA.ps hF q1 q2).mono ?_;rintro e w2 ⟨⟨a2,c2,rfl,R2⟩,hs⟩;have RR:=R.below hs;have hC:=Aa hm hs;have hx:w.heap.size<=wr.heap.size:=hm.size;obtain⟨cc,ht⟩:=RR.blkAt;have x2:w2.cell? ⟨b,k*2+1,none⟩=some (.slice r.pa r.pn r.pc):=RR.cellAt hr rfl;have f2:=ht.frozen (k*2+1);clear x1;go_wp2;have hg:w2.grownBy (w2.setCell ⟨b,k*2+1,none⟩ (.slice a2 r.pn c2)) (some b):=af_ (Yh _ _) _ _;have R3:=RR.set1 (x':=⟨r.nm,a2,r.pn,c2⟩) (v:=.slice a2 r.pn c2) aI_ hr (j:=1) (by decide) rfl;have R4:=(R2.ty hg (aa_ ht) (by decide)).mono hx;have hv:=ao_ hC hg hw
   have hz:Hid (∀ (i:Nat) (r':IR) (y':It),i<k+1->(rows.set k ⟨r.nm,a2,r.pn,c2⟩)[i]?=some r'->its[i]?=some y'->BY w.heap.size (w2.setCell ⟨b,k*2+1,none⟩ (.slice a2 r.pn c2)) r' y'):=fun i r' y' hi h1 h2=>by
    by_cases hik:k=i
    ·subst hik;rw[Zx hq] at h1
     cases h1
     rw[hy] at h2
     cases h2
     exact⟨hA.nm,R4⟩
    ·rw[ZJ hik] at h1
     have:=(ha.out i r' y' (by omega) h1 h2).below hs
     exact⟨this.nm,this.ps.ty hg (aa_ ht) (by decide)⟩
   have hH:Hid (∀ (i:Nat) (r':IR),k+1<=i->(rows.set k ⟨r.nm,a2,r.pn,c2⟩)[i]?=some r'->rows0[i]?=some r'):=fun i r' hi h1=>by
    rw[ZJ (by omega)] at h1;exact hb.out i r' (by omega) h1
   have hf:∀ (i:Nat) (r':IR) (x:Addr),i<k->rows[i]?=some r'->r'.pa=some x->x.block<wr.heap.size:=fun i r' x hi h1 h2=>by
    have hD:i<its.length:=by rw[hc.out];omega
    exact ((ha.out i r' its[i] hi h1 (by simp[hD])).ps.block x h2).2
   have he:∀ x,a2=some x->wr.heap.size<=x.block:=fun x e=>(R2.block x e).1
   have hJ:Hid (∀ (i j:Nat) (r' s:IR) (x y:Addr),i<k+1->j<k+1->i≠j->(rows.set k ⟨r.nm,a2,r.pn,c2⟩)[i]?=some r'->(rows.set k ⟨r.nm,a2,r.pn,c2⟩)[j]?=some s->r'.pa=some x->s.pa=some y->x.block≠y.block):=fun i j r' s x y hi hj ho h1 h2 e1 e2=>by
    by_cases hik:k=i
    ·subst hik;rw[Zx hq] at h1
     cases h1
     rw[ZJ ho] at h2;have q1:=he x e1;have q2:=hf j s y (by omega) h2 e2;omega
    ·rw[ZJ hik] at h1;have q2:=hf i r' x (by omega) h1 e1;by_cases hjk:k=j
     ·subst hjk;rw[Zx hq] at h2
      cases h2
      have q1:=he y e2;omega
     ·rw[ZJ hjk] at h2;exact hl.out i j r' s x y (by omega) (by omega) ho h1 h2 e1 e2
   go_roundw
   case rel=>exact⟨k+1,_,by omega,by go_num,R3,hz,hH,hJ,hv⟩
   case measure=>simp[intOf];omega
  ·obtain rfl:k=n:=by omega
   go_wp2;go_returns;exact⟨⟨a1,c1,rows,rfl,R,⟨by rw[hI,hc.out],fun i r y h1 h2=>ha.out i r y (by have:=(Zb.1 h1).1;omega) h1 h2⟩,ng_ (fun i j r s x y ho h1 h2 e1 e2=>hl.out i j r s x y (by have:=(Zb.1 h1).1;omega) (by have:=(Zb.1 h2).1;omega) ho h1 h2 e1 e2)⟩,hm⟩
structure GL (B:Nat)(w:World)(r:VR)(y:Vo):Prop where
 id:r.id=y.id
 nm:r.nm=y.nm
 fx:r.fx=y.fx
 its:Bg B w r.pa r.pn y.its
 hd:Hd B r.pa r.pn r.pc
theorem GL.below {B:Nat}{w w':World}{r:VR}{y:Vo}(h:GL B w r y)(hb:Below w.heap.size w w'):GL B w' r y:=⟨h.id,h.nm,h.fx,h.its.below hb,h.hd⟩
theorem Bb.rowsA {B:Nat}{w:World}{a:Option Addr}{n:Nat}{l:List Vo}(h:Bb B w a n l):∃ rows:List VR,AF vrs 4 w a n rows∧rows.length=n∧∀ (i:Nat) (y:Vo) (r:VR),l[i]?=some y->rows[i]?=some r->GL B w r y:=by
 obtain⟨rows,hl,hr⟩:=jp_ l (fun i y (r:VR)=>(∃ b o,a=some ⟨b,o,none⟩∧w.cell? ⟨b,o+i*4,none⟩=some (.int .i64 r.id)∧w.cell? ⟨b,o+i*4+1,none⟩=some (.string r.nm)∧w.cell? ⟨b,o+i*4+2,none⟩=some (.bool r.fx)∧w.cell? ⟨b,o+i*4+3,none⟩=some (.slice r.pa r.pn r.pc))∧GL B w r y) (fun i y hy=>by
  obtain⟨b,o,pa,pn,pc,ha,c0,c1,c2,c3,hi,hh,_⟩:=h.cell i y hy;exact⟨⟨y.id,y.nm,y.fx,pa,pn,pc⟩,⟨b,o,ha,c0,c1,c2,c3⟩,⟨rfl,rfl,rfl,hi,hh⟩⟩)
 refine⟨rows,⟨by rw[hl,h.len],fun i r hb=>?_⟩,by rw[hl,h.len],fun i y r h1 h2=>(hr i y r h1 h2).2⟩;have hi:=(Zb.1 hb).1;rw[hl] at hi;obtain⟨⟨b,o,ha,c0,c1,c2,c3⟩,_⟩:=hr i l[i] r (by simp[hi]) hb;refine⟨b,o,ha,fun j v hv=>?_⟩;rcases j with _ | _ | _ | _ | j
 ·simp[vrs] at hv;subst hv;exact c0
 ·simp[vrs] at hv;subst hv;exact c1
 ·simp[vrs] at hv;subst hv;exact c2
 ·simp[vrs] at hv;subst hv;exact c3
 ·simp[vrs] at hv
def CC (rows:List VR):Prop:=∀ (i j:Nat) (r s:VR) (x y:Addr),i≠j->rows[i]?=some r->rows[j]?=some s->r.pa=some x->s.pa=some y->x.block≠y.block
def BI (B:Nat)(w:World)(v:Value)(p:Po)(rows:List VR):Prop:=
 ∃ ea en ec va vn vc ra rn rc la ln lc,v=.agg #[.int .i64 p.size,.int .i64 p.next,.slice ea en ec,.slice va vn vc,.slice ra rn rc,.slice la ln lc]∧
  Ae Ex.cs 2 76 w B ea en ec p.ex∧(Ae vrs 4 62 w B va vn vc rows∧Ay B w rows p.vs)∧Ae Ct.cs 4 80 w B ra rn rc p.rf∧Ae Ct.cs 4 80 w B la ln lc p.lt∧(∀ x y,ra=some x->la=some y->0<rc->0<lc->x.block≠y.block)∧CC rows∧NP w rows
theorem BI.t {B:Nat}{w:World}{v:Value}{p:Po}{rows:List VR}(h:BI B w v p rows):Am B w v p:=by
 obtain⟨ea,en,ec,va,vn,vc,ra,rn,rc,la,ln,lc,hv,h1,h2,h3,h4,h5,_⟩:=h;exact⟨ea,en,ec,va,vn,vc,ra,rn,rc,la,ln,lc,rows,hv,h1,h2,h3,h4,h5⟩
theorem BY.low {B k:Nat}{w w':World}{r:IR}{y:It}(h:BY B w r y)(hg:w.grownBy w' (some k))(hk:k<B):BY B w' r y:=⟨h.nm,h.ps.grown hg (fun ad e=>by have:=(h.ps.block ad e).1;omega)⟩
theorem Bd.low {B k:Nat}{w w':World}{r:VR}{y:Vo}(h:Bd B w r y)(hg:w.grownBy w' (some k))(hk:k<B):Bd B w' r y:=by
 obtain⟨e1,e2,e3,rs,R,T⟩:=h;exact⟨e1,e2,e3,rs,R.grown hg (fun ad e=>by have:=(R.block ad e).1;omega),T.len,fun i r y h1 h2=>(T.at' i r y h1 h2).low hg hk⟩
theorem Ay.low {B k:Nat}{w w':World}{rows:List VR}{l:List Vo}(h:Ay B w rows l)(hg:w.grownBy w' (some k))(hk:k<B):Ay B w' rows l:=⟨h.len,fun i r y h1 h2=>(h.at' i r y h1 h2).low hg hk⟩
def H1 (p:Po):Prop:=p.ex.length<=4194304∧p.vs.length<=4194304∧p.rf.length<=4194304∧p.lt.length<=4194304∧∀ v∈p.vs,v.its.length<=4194304∧∀ y∈v.its,y.ps.length<=4194304
theorem ff_ (B:Nat)(hB:0<B)(v:Value)(p:Po)(w:World)(h:AG B w v p)(hd:H1 p):
  Calls prog 60 #[v] w fun e w'=>(∃ v' rows,e=.returned v'∧BI w.heap.size w' v' p rows)∧Below w.heap.size w w':=by
 obtain⟨ea,en,ec,va,vn,vc,ra,rn,rc,la,ln,lc,rfl,⟨hE,hN,_⟩,⟨hV,hQ⟩,⟨hR,hP,_⟩,hL,hO,_⟩:=h;obtain⟨d1,d2,d3,d4,d5⟩:=hd;have n1:en<=4194304:=by rw[<-hE.len];exact d1
 have n2:vn<=4194304:=by rw[<-hV.len];exact d2
 have n3:rn<=4194304:=by rw[<-hR.len];exact d3
 have n4:ln<=4194304:=by rw[<-hL.len];exact d4
 have hD:Hid (p.vs.length=vn):=hV.len;obtain⟨rows0,V0,ql,qc⟩:=hV.rowsA;obtain⟨e1,e2⟩:=hN.args hB;obtain⟨v1,v2⟩:=hQ.args hB;obtain⟨r1,r2⟩:=hP.args hB;obtain⟨l1,l2⟩:=hO.args hB;clear hV hN hQ hP hO d1 d2 d3 d4;obtain⟨W0,ht⟩:∃ W,W=(w.alloc (.cells #[.int .i64 p.size,.int .i64 p.next,.slice ea en ec,.slice va vn vc,.slice ra rn rc,.slice la ln lc] 35)).alloc (.cells #[.int .i64 0,.int .i64 0,.slice none 0 0,.slice none 0 0,.slice none 0 0,.slice none 0 0] 35):=⟨_,rfl⟩;have hG:Below w.heap.size w W0:=by rw[ht];go_grown
 have P:Blk W0 w.heap.size #[.int .i64 p.size,.int .i64 p.next,.slice ea en ec,.slice va vn vc,.slice ra rn rc,.slice la ln lc] 35:=by rw[ht];exact (Blk.new w _ _).alloc _
 have D:Blk W0 (w.heap.size+1) #[.int .i64 0,.int .i64 0,.slice none 0 0,.slice none 0 0,.slice none 0 0,.slice none 0 0] 35:=by rw[ht];exact Blk.new' _ _ _ _ (by simp)
 have hJ:w.heap.size+2<=W0.heap.size:=by rw[ht];simp
 go_enter func60,ntmps60
 go_wp2_with fail
 rw[<-ht];clear ht;refine (ni_ ea en ec p.ex W0 (hE.below hG) n1 e1 e2).mono ?_;rintro e w1 ⟨⟨ea',ec',rfl,RE⟩,hc⟩;replace P:=P.below hc;replace D:=D.below hc;replace RE:=RE.mono hJ;have hU:w.heap.size+2<=w1.heap.size:=Zl hJ hc.size;replace hc:=Aa hG hc;clear hG hE hJ;obtain⟨x0,x1,x2,x3,x4,x5⟩:=P.six';have f2:=P.frozen 2
 go_wp2_with fail
 have hg:w1.grownBy (w1.setCell ⟨w.heap.size,2,none⟩ (.slice ea' en ec')) (some w.heap.size):=af_ (Yh _ _) _ _;replace P:=P.set 2 (.slice ea' en ec');simp only[Yj,Yq,Yr] at P;replace D:=D.grown hg (by omega);replace RE:=RE.grown hg (fun ad e=>by have:=(RE.block ad e).1;omega);replace hc:=ao_ hc hg (Zd _);have hM:=Zl hU hg.size;generalize w1.setCell ⟨w.heap.size,2,none⟩ (.slice ea' en ec')=w2 at *;clear hg hU x0 x1 x2 x3 x4 x5 f2;refine (nj_ va vn vc rows0 w2 (V0.below hc) n2 v1 v2).mono ?_;rintro e w3 ⟨⟨va',vc',rfl,RV⟩,he⟩;replace P:=P.below he;replace D:=D.below he;replace RE:=RE.below he;replace RV:=RV.mono hM;have hX:w.heap.size+2<=w3.heap.size:=Zl hM he.size;replace he:=Aa hc he;clear hc hM;obtain⟨x0,x1,x2,x3,x4,x5⟩:=P.six';have f3:=P.frozen 3
 go_wp2_with fail
 have hg:w3.grownBy (w3.setCell ⟨w.heap.size,3,none⟩ (.slice va' vn vc')) (some w.heap.size):=af_ (Yh _ _) _ _;replace P:=P.set 3 (.slice va' vn vc');simp only[Yj,Yq,Yr] at P;replace D:=D.grown hg (by omega);replace RE:=RE.grown hg (fun ad e=>by have:=(RE.block ad e).1;omega);replace RV:=RV.grown hg (fun ad e=>by have:=(RV.block ad e).1;omega);replace he:=ao_ he hg (Zd _);have hY:=Zl hX hg.size;generalize w3.setCell ⟨w.heap.size,3,none⟩ (.slice va' vn vc')=w4 at *;clear hg hX x0 x1 x2 x3 x4 x5 f3
 go_loopw [3,15] (fun _ ix wr=>∃ (k:Nat) (rows:List VR),k<=vn∧ix=.int .i64 k∧Blk wr w.heap.size #[.int .i64 p.size,.int .i64 p.next,.slice ea' en ec',.slice va' vn vc',.slice ra rn rc,.slice la ln lc] 35∧Blk wr (w.heap.size+1) #[.int .i64 0,.int .i64 0,.slice none 0 0,.slice none 0 0,.slice none 0 0,.slice none 0 0] 35∧Ae Ex.cs 2 76 wr (w.heap.size+2) ea' en ec' p.ex∧Ae vrs 4 62 wr (w.heap.size+2) va' vn vc' rows∧Hid (∀ (i:Nat) (r:VR) (y:Vo),i<k->rows[i]?=some r->p.vs[i]?=some y->Bd (w.heap.size+2) wr r y)∧Hid (∀ (i:Nat) (r:VR),k<=i->rows[i]?=some r->rows0[i]?=some r)∧Hid (∀ (i j:Nat) (r s:VR) (x y:Addr),i<k->j<k->i≠j->rows[i]?=some r->rows[j]?=some s->r.pa=some x->s.pa=some y->x.block≠y.block)∧Hid (((rows.take k).flatMap (pbk wr)).Nodup)∧Below w.heap.size w wr∧w.heap.size+2<=wr.heap.size) (fun _ ix _=>vn-(intOf ix).toNat)
 case atStart=>exact⟨0,rows0,Zg _,rfl,P,D,RE,RV,fun i r y hi=>by omega,fun i r _ hr=>hr,fun i j r s x y hi=>by omega,List.nodup_nil,he,hY⟩
 case round=>
  clear P D RE RV he hY;obtain⟨k,rows,hk,rfl,P,D,RE,RV,ha,hb,hp,hI,hC,hz⟩:=hrel;have qe:rows.length=vn:=RV.sl.len;obtain⟨x0,x1,x2,x3,x4,x5⟩:=P.six';by_cases hlt:k<vn
  ·have qj:(k:Int)<vn:=by omega
   have qk:(0:Int)<=k:=by omega
   obtain⟨b,rfl,qh,qm,qi⟩:=RV.addr (by omega);have hu:k<rows.length:=by omega
   obtain⟨r,hr⟩:∃ r,rows[k]?=some r:=⟨rows[k],by simp[hu]⟩;have h9:k<p.vs.length:=by rw[hD.out];exact hlt
   obtain⟨y,hy⟩:∃ y,p.vs[k]?=some y:=⟨p.vs[k],by simp[h9]⟩;have hA:=(qc k y r hy (hb.out k r (Zd _) hr)).below hC;have y3:wr.cell? ⟨b,k*4+3,none⟩=some (.slice r.pa r.pn r.pc):=RV.cellAt hr rfl;obtain⟨q1,q2⟩:=d5 y (Zc hy);have qb:r.pn<=4194304:=by rw[<-hA.its.len];exact q1
   go_wp2_with fail
   have hW:Below wr.heap.size wr wr.drew:=(Yg _ _).drew;have h6:(fun u=>u.cell? ⟨w.heap.size,3,none⟩=some (.slice (some ⟨b,0,none⟩) vn vc')∧u.cell? ⟨b,k*4+3,none⟩=some (.slice r.pa r.pn r.pc)) wr.drew:=⟨x3,y3⟩;refine ar_ (S:=(fun u=>u.cell? ⟨w.heap.size,3,none⟩=some (.slice (some ⟨b,0,none⟩) vn vc')∧u.cell? ⟨b,k*4+3,none⟩=some (.slice r.pa r.pn r.pc))) 12 (by kernel_rfl) (by kernel_rfl) ?_;refine tk 0 ?_;refine tk 1 ?_;refine tk 2 ?_;refine tk 3 ?_;refine tk 4 ?_;refine tk 5 ?_;refine tk 6 ?_;refine tk 7 ?_;refine tk 8 ?_;refine AX (i:=9) (by kernel_rfl) rfl (fun K hK=>?_);go_simp;refine (er_ B hB r.pa r.pn r.pc y.its _ (hA.its.below hW) hA.hd qb q2).mono ?_;rintro e w5 ⟨⟨a5,c5,rows5,rfl,R5,T5,N5⟩,h3⟩;have hl:Below wr.heap.size wr w5:=Aa hW h3;replace P:=P.below hl;replace D:=D.below hl;replace RE:=RE.below hl;have hF:=RV.below hl;have h4:=Aa hC hl;have qg:=Zl hz hl.size;have y5:w5.cell? ⟨b,k*4+3,none⟩=some (.slice r.pa r.pn r.pc):=hF.cellAt hr rfl;obtain⟨cc,hm⟩:=hF.blkAt;have f5:=hm.frozen (k*4+3);have z3:w5.cell? ⟨w.heap.size,3,none⟩=some (.slice (some ⟨b,0,none⟩) vn vc'):=P.cell 3;dsimp only;refine hK.out _ _ ⟨z3,y5⟩ (fun hHeld=>?_);clear hK K
   try simp only[Act.put,lsA,lsB,lsC]
   refine tk 10 ?_;refine tk 11 ?_;refine wpAnyH_done (by kernel_rfl) ?_ _;refine BK rfl ?_;clear z3 x0 x1 x2 x3 x4 x5 y3 h6;go_wp2;have hg:w5.grownBy (w5.setCell ⟨b,k*4+3,none⟩ (.slice a5 r.pn c5)) (some b):=af_ (Yh _ _) _ _;have h0:=hF.set1 (x':=⟨r.id,r.nm,r.fx,a5,r.pn,c5⟩) (v:=.slice a5 r.pn c5) a2_ hr (j:=3) (by decide) rfl;have qo:wr.drew.heap.size=wr.heap.size:=rfl;have R6:=(R5.ty hg (aa_ hm) (by decide)).mono (show w.heap.size+2<=wr.drew.heap.size by omega);have T6:=(T5.ty hg (aa_ hm) (by decide)).mono (show w.heap.size+2<=wr.drew.heap.size by omega);have P6:=P.ty hg (aa_ hm) (by decide);have D6:=D.ty hg (aa_ hm) (by decide);have hZ:=RE.ty hg (aa_ hm) (by decide);have h5:=ao_ h4 hg (by omega);have hs:=Zl qg hg.size
   have h8:Hid (∀ (i:Nat) (r2:VR) (y2:Vo),i<k+1->(rows.set k ⟨r.id,r.nm,r.fx,a5,r.pn,c5⟩)[i]?=some r2->p.vs[i]?=some y2->Bd (w.heap.size+2) (w5.setCell ⟨b,k*4+3,none⟩ (.slice a5 r.pn c5)) r2 y2):=fun i r2 y2 hi h1 h2=>by
    by_cases ho:k=i
    ·subst ho;rw[Zx hu] at h1
     cases h1
     rw[hy] at h2
     cases h2
     exact⟨hA.id,hA.nm,hA.fx,rows5,R6,T6⟩
    ·rw[ZJ ho] at h1;exact ((ha.out i r2 y2 (by omega) h1 h2).below hl).ty hg (aa_ hm) (by decide) (by decide)
   have qd:Hid (∀ (i:Nat) (r2:VR),k+1<=i->(rows.set k ⟨r.id,r.nm,r.fx,a5,r.pn,c5⟩)[i]?=some r2->rows0[i]?=some r2):=fun i r2 hi h1=>by
    rw[ZJ (by omega)] at h1;exact hb.out i r2 (by omega) h1
   have hv:∀ (i:Nat) (r2:VR) (x:Addr),i<k->rows[i]?=some r2->r2.pa=some x->x.block<wr.heap.size:=fun i r2 x hi h1 hx=>by
    have hH:i<p.vs.length:=by rw[hD.out];omega
    obtain⟨rs,Rs,_⟩:=(ha.out i r2 p.vs[i] hi h1 (by simp[hH])).its;exact (Rs.block x hx).2
   have qf:Hid (∀ (i j:Nat) (r2 s:VR) (x y:Addr),i<k+1->j<k+1->i≠j->(rows.set k ⟨r.id,r.nm,r.fx,a5,r.pn,c5⟩)[i]?=some r2->(rows.set k ⟨r.id,r.nm,r.fx,a5,r.pn,c5⟩)[j]?=some s->r2.pa=some x->s.pa=some y->x.block≠y.block):=fun i j r2 s x y hi hj hw h1 h2 hx hy=>by
    by_cases ho:k=i
    ·subst ho;rw[Zx hu] at h1
     cases h1
     rw[ZJ hw] at h2;have q1:=(R5.block x hx).1;have q2:=hv j s y (by omega) h2 hy;omega
    ·rw[ZJ ho] at h1;by_cases hjk:k=j
     ·subst hjk;rw[Zx hu] at h2
      cases h2
      have q1:=(R5.block y hy).1;have q2:=hv i r2 x (by omega) h1 hx;omega
     ·rw[ZJ hjk] at h2;exact hp.out i j r2 s x y (by omega) (by omega) hw h1 h2 hx hy
   have qa:Hid (((rows.set k ⟨r.id,r.nm,r.fx,a5,r.pn,c5⟩).take (k+1)).flatMap (pbk (w5.setCell ⟨b,k*4+3,none⟩ (.slice a5 r.pn c5)))).Nodup:=by
    show List.Nodup _
    have e1:(rows.set k ⟨r.id,r.nm,r.fx,a5,r.pn,c5⟩).take (k+1)=rows.take k++[⟨r.id,r.nm,r.fx,a5,r.pn,c5⟩]:=by
     rw[ZK,Zx hu,List.take_set_of_le (Zd _)];rfl
    have hT:∀ q∈rows.take k,∃ y',Bd (w.heap.size+2) wr q y':=fun q hq=>by
     obtain⟨i,hi,rfl⟩:=YS hq;have ho:i<k:=by rw[Zz] at hi;omega
     have hH:i<p.vs.length:=by rw[hD.out];omega
     rw[List.getElem_take];exact⟨p.vs[i],ha.out i _ p.vs[i] ho (by simp[show i<rows.length by omega]) (by simp[hH])⟩
    have e2:(rows.take k).flatMap (pbk (w5.setCell ⟨b,k*4+3,none⟩ (.slice a5 r.pn c5)))=(rows.take k).flatMap (pbk wr):=bW_ (fun q hq=>by
     obtain⟨y',V⟩:=hT q hq;exact fP_ V (fun rs R=>((R.below hl).ty hg (aa_ hm) (by decide)).sl))
    have e3:pbk (w5.setCell ⟨b,k*4+3,none⟩ (.slice a5 r.pn c5)) ⟨r.id,r.nm,r.fx,a5,r.pn,c5⟩=bkI rows5:=cv_ (r:=⟨r.id,r.nm,r.fx,a5,r.pn,c5⟩) R6.sl;rw[e1,ZQ,e2,ZF,List.flatMap_nil,Yy,e3];refine mE_ (n:=wr.heap.size) hI.out (fun z hz=>?_) N5 (fun z hz=>?_)
    ·obtain⟨q,hq,hz⟩:=ZL.1 hz;obtain⟨y',V⟩:=hT q hq;exact (oc_ V z hz).2
    ·obtain⟨i,q,x,h1,h2,rfl⟩:=jn_ hz;have hi:i<y.its.length:=by rw[<-T5.len];exact (Zb.1 h1).1
     exact ((T5.at' i q y.its[i] h1 (by simp[hi])).ps.block x h2).1
   go_roundw
   case rel=>exact⟨k+1,_,by omega,by go_num,P6,D6,hZ,h0,h8,qd,qf,qa,h5,hs⟩
   case measure=>simp[intOf];omega
  ·obtain rfl:k=vn:=by omega
   have TV:Ay (w.heap.size+2) wr rows p.vs:=⟨by rw[qe,hD.out],fun i r y h1 h2=>ha.out i r y (by have:=(Zb.1 h1).1;omega) h1 h2⟩;have SV:CC rows:=fun i j r s x y hw h1 h2 hx hy=>hp.out i j r s x y (by have:=(Zb.1 h1).1;omega) (by have:=(Zb.1 h2).1;omega) hw h1 h2 hx hy;have NV:NP wr rows:=by have:=hI.out;rw[Zk (by omega)] at this;exact this
   clear ha hb hp hI
   go_wp2_with fail
   refine (iL_ ra rn rc p.rf wr (hR.below hC) n3 r1 r2).mono ?_;rintro e w6 ⟨⟨ra',rc',rfl,RR⟩,hh⟩;replace P:=P.below hh;replace D:=D.below hh;replace RE:=RE.below hh;replace RV:=RV.below hh;replace NV:=dc_ TV NV hh;replace TV:=TV.below hh;replace RR:=RR.mono hz;have hs:=Zl hz hh.size;replace hC:=Aa hC hh;clear hh x0 x1 x2 x3 x4 x5 hz;obtain⟨x0,x1,x2,x3,x4,x5⟩:=P.six';have f4:=P.frozen 4
   go_wp2_with fail
   have hg:w6.grownBy (w6.setCell ⟨w.heap.size,4,none⟩ (.slice ra' rn rc')) (some w.heap.size):=af_ (Yh _ _) _ _;replace P:=P.set 4 (.slice ra' rn rc');simp only[Yj,Yq,Yr] at P;replace D:=D.grown hg (by omega);replace RE:=RE.grown hg (fun ad e=>by have:=(RE.block ad e).1;omega);replace RV:=RV.grown hg (fun ad e=>by have:=(RV.block ad e).1;omega);replace RR:=RR.grown hg (fun ad e=>by have:=(RR.block ad e).1;omega);replace NV:=lG_ TV NV hg (by omega);replace TV:=TV.low hg (by omega);replace hC:=ao_ hC hg (Zd _);replace hs:=Zl hs hg.size;generalize w6.setCell ⟨w.heap.size,4,none⟩ (.slice ra' rn rc')=w7 at *;clear hg x0 x1 x2 x3 x4 x5 f4;refine (iL_ la ln lc p.lt w7 (hL.below hC) n4 l1 l2).mono ?_;rintro e w8 ⟨⟨la',lc',rfl,RL⟩,hf⟩;have h7:∀ x y,ra'=some x->la'=some y->0<rc'->0<lc'->x.block≠y.block:=fun x y hx hy _ _=>by have q1:=(RR.block x hx).2;have q2:=(RL.block y hy).1;omega
   replace P:=P.below hf;replace D:=D.below hf;replace RE:=RE.below hf;replace RV:=RV.below hf;replace NV:=dc_ TV NV hf;replace TV:=TV.below hf;replace RR:=RR.below hf;replace RL:=RL.mono hs;have qn:=Zl hs hf.size;replace hC:=Aa hC hf;clear hf hs;obtain⟨x0,x1,x2,x3,x4,x5⟩:=P.six';have f5:=P.frozen 5;obtain⟨y0,y1,y2,y3,y4,y5⟩:=D.six';obtain⟨g0,g1,g2,g3,g4,g5⟩:=fz6 D;go_wp2;have hg:w8.grownBy (w8.setCell ⟨w.heap.size,5,none⟩ (.slice la' ln lc')) (some w.heap.size):=af_ (Yh _ _) _ _;replace D:=D.grown hg (by omega);replace RE:=RE.grown hg (fun ad e=>by have:=(RE.block ad e).1;omega);replace RV:=RV.grown hg (fun ad e=>by have:=(RV.block ad e).1;omega);replace RR:=RR.grown hg (fun ad e=>by have:=(RR.block ad e).1;omega);replace RL:=RL.grown hg (fun ad e=>by have:=(RL.block ad e).1;omega);replace NV:=lG_ TV NV hg (by omega);replace TV:=TV.low hg (by omega);replace hC:=ao_ hC hg (Zd _);generalize w8.setCell ⟨w.heap.size,5,none⟩ (.slice la' ln lc')=W9 at *;clear hg;obtain⟨W10,hS,E9,hn⟩:=AV D (.int .i64 p.size) (.int .i64 p.next) (.slice ea' en ec') (.slice va' k vc') (.slice ra' rn rc') (.slice la' ln lc');replace RE:=RE.grown hn (fun ad e=>by have:=(RE.block ad e).1;omega);replace RV:=RV.grown hn (fun ad e=>by have:=(RV.block ad e).1;omega);replace RR:=RR.grown hn (fun ad e=>by have:=(RR.block ad e).1;omega);replace RL:=RL.grown hn (fun ad e=>by have:=(RL.block ad e).1;omega);replace NV:=lG_ TV NV hn (by omega);replace TV:=TV.low hn (by omega);replace hC:=ao_ hC hn (by omega);rw[<-hS];clear hS;refine YW (results_cell_row rfl _ W10 (w.heap.size+1) _ _ _ _ rfl E9 underlying35 rfl (by kernel_rfl)) rfl ?_;exact⟨⟨_,rows,rfl,ea',en,ec',va',k,vc',ra',rn,rc',la',ln,lc',rfl,RE.mono (by omega),⟨RV.mono (by omega),TV.mono (by omega)⟩,RR.mono (by omega),RL.mono (by omega),h7,SV,NV⟩,hC⟩
theorem Blk.row {w:World}{b:Nat}{c c':Array Value}{t:TypeId}(h:Blk w b c t):Blk (w.setRow b c') b c' t:=setRow_heap w b c c' t _ h
end
end Go.Proofs.YtahenegmbmnmjaaGreatDoor
