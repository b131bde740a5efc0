/- Files that are not there, and copies that are refused, by the model. -/
import Derived.Test.YtbbhcnjhohidnaaGreatDoorV24
import Derived.Test.YtbbhcnjhohidnaaGreatDoorV26
set_option maxHeartbeats 20000000
set_option maxRecDepth 100000
namespace Go.Proofs.YtbbhcnjhohidnaaGreatDoor
section
open Go Go.RowKit Go.BigFrame Tryz
variable{size:Int}
theorem e9_ (B:Nat)(hB0:0<B)(v:Value)(p:Po)(o:Opr)(w:World)(h:PoolT B w v p)(hNn:NnE v)(hBw:B<=w.heap.size)(hd:DimP p)(hp:poolB p=true)(hk:o.k=3)(i:Nat)(hso:volI p.vs o.vol=some i)(hfx:∀ x:Vo,p.vs[i]?=some x->x.fx=false)(hpo:partsO p.vs o.vol o.file=none):
  Calls prog 61 #[v,.agg #[.int .i64 o.k,.string o.vol,.string o.file,.string o.to,.string o.into,.int .i64 o.at',.int .i64 o.fr,.int .i64 o.ln,.string o.data]] w fun e w'=>(∃ v' c,e=.returned (.tuple #[v',.int .i64 c])∧PoolV v'∧c=(fileS p o).1∧(c=0->PoolT B w' v' (fileS p o).2∧(partsS p o).2.2.length<=1000))∧Below B w w'∧FrV w w':=by
 have hg:=h.at';obtain⟨ea,en,ec,va,vn,vc,ra,rn,rc,la,ln,lc,rows,rfl,h1,⟨h2,h3⟩,h4,h5,h6⟩:=h;have hs:=hd;obtain⟨z1,z2,z3,z4,z5,z6,z7,z8⟩:=hd;have hV:VsAt B w va vn p.vs:=h3.rows.vs h2;rw[hV.len] at z3;obtain⟨size,next,ex,vs,rf,lt⟩:=p;obtain⟨k,vol,file,tt,into,at0,fr,ln0,data⟩:=o;simp only at h1 h2 h3 h4 h5 hV z4 z3 hg hp hk ⊢;have _:=hB0;have _:=hNn;have _:=hBw;have _:=hp;have hn:vs.length=vn:=hV.len;have hv:rows.length=vn:=h2.sl.len;simp only at hso hfx hpo;subst hk;have hi:=ap_ hso;have hu:i<vn:=by omega
 have hx:vs[i]?=some vs[i]:=by simp[hi]
 have hA:(0:Int)<=(i:Int):=by omega
 have hq:(i:Int)<vn:=by omega
 have hr:rows[i]?=some (rows[i]'(by omega)):=by simp[hv,hu]
 have VT:=h3.at' i _ _ hr hx;generalize rows[i]'(by omega)=r0 at *;generalize vs[i]=x at *;obtain⟨rid,rnm,rfx,pa0,pn0,pc0⟩:=r0;obtain⟨e1,e2,e3,irows,RI,TI⟩:=VT;simp only at e1 e2 e3 RI;subst e1 e2 e3;obtain⟨vb,rfl,hB,ho,ht⟩:=h2.addr (by omega);have hf:=hfx _ hx;clear hfx;have hw:partsS ⟨size,next,ex,vs,rf,lt⟩ ⟨3,vol,file,tt,into,at0,fr,ln0,data⟩=(3,ex,[]):=by simp[partsS,hpo]
 have hS:Hid (fileS ⟨size,next,ex,vs,rf,lt⟩ ⟨3,vol,file,tt,into,at0,fr,ln0,data⟩=(3,⟨size,next,ex,vs,rf,lt⟩)):=by show _=_;simp[fileS,hso,hx,hf,hw]
 generalize hh:partsS ⟨size,next,ex,vs,rf,lt⟩ ⟨3,vol,file,tt,into,at0,fr,ln0,data⟩=PS at *;replace hh:Hid (partsS ⟨size,next,ex,vs,rf,lt⟩ ⟨3,vol,file,tt,into,at0,fr,ln0,data⟩=PS):=hh;generalize fileS ⟨size,next,ex,vs,rf,lt⟩ ⟨3,vol,file,tt,into,at0,fr,ln0,data⟩=R at *;have hy:Hid (x.fx=false):=hf;clear hf;go_enter func61,ntmps61
 go_wp2_with fail
 refine (ak_ B size next ea en ec (some ⟨vb,0,none⟩) vn vc ra rn rc la ln lc vs vol _ (hV.below (by go_grown)) z3).mono ?_;rintro e w1 ⟨rfl,hl⟩;obtain⟨C,O,D,ha,hD⟩:=bx3 hl;clear hl;rw[hso];simp only[idxV];obtain⟨c0,c1,c2,c3,c4,c5⟩:=C.six';obtain⟨o0,o1,o2,o3,o4,o5,o6,o7,o8⟩:=ce9 O;obtain⟨x0,x1,x2,x3,x4,x5⟩:=D.six';obtain⟨f0,f1,f2,f3,f4,f5⟩:=fz6 D;have RA:=h2.below ha;have e2:w1.cell? ⟨vb,i*4+2,none⟩=some (.bool x.fx):=RA.cellAt (j:=2) hr rfl;rw[hy.out] at e2
 go_wp2_with fail
 refine (aH_ B _ ⟨size,next,ex,vs,rf,lt⟩ vol file _ (hg.below ha) hs).mono ?_;rintro e wA ⟨he,hc⟩;obtain⟨qa,qn,qc,rfl,hQ⟩:=he.uni;clear he;have hm:partsOkB ((partsO vs vol file).getD [])=true:=bH_ (p:=⟨size,next,ex,vs,rf,lt⟩) hp;simp only at hQ ⊢;clear c0 c1 c2 c3 c4 c5 o0 o1 o2 o3 o4 o5 o6 o7 o8 x0 x1 x2 x3 x4 x5 f0 f1 f2 f3 f4 f5;have C':=C.below hc;have D':=D.below hc;have O':=O.below hc;have hb:=chain ha hc;have hC:=hc.size;clear C D O e2 RA;obtain⟨c0,c1,c2,c3,c4,c5⟩:=C'.six';obtain⟨o0,o1,o2,o3,o4,o5,o6,o7,o8⟩:=ce9 O';obtain⟨x0,x1,x2,x3,x4,x5⟩:=D'.six';obtain⟨f0,f1,f2,f3,f4,f5⟩:=fz6 D';rw[hpo] at hQ hm ⊢;simp only[Option.getD_none,Option.isSome_none] at hQ hm ⊢;go_wp2;obtain⟨W8,hj,W0,hz⟩:=set6 D' (.int .i64 size) (.int .i64 next) (.slice ea en ec) (.slice (some ⟨vb,0,none⟩) vn vc) (.slice ra rn rc) (.slice la ln lc);have B8:=hb.grown hz hb.size (fun j e=>by cases e;omega);rw[<-hj];clear hj;refine bodyPost_ret (ad_ rfl _ W8 (w.heap.size+2) _ _ _ _ _ rfl W0 underlying35 rfl (by kernel_rfl) rfl) rfl ?_;exact⟨⟨_,3,rfl,bm_ _ _ _ _ _ _ _ _ _ _ _ _ _ _,by rw[hS.out],fun h=>absurd h (by omega)⟩,B8.mono hBw,FrV.of B8⟩
theorem ei_ (B:Nat)(hB0:0<B)(v:Value)(p:Po)(o:Opr)(w:World)(h:PoolT B w v p)(hNn:NnE v)(hBw:B<=w.heap.size)(hd:DimP p)(hp:poolB p=true)(hk:o.k=10)(i:Nat)(hso:volI p.vs o.vol=some i)(hfx:∀ x:Vo,p.vs[i]?=some x->x.fx=false)(hpo:partsO p.vs o.vol o.file=none):
  Calls prog 61 #[v,.agg #[.int .i64 o.k,.string o.vol,.string o.file,.string o.to,.string o.into,.int .i64 o.at',.int .i64 o.fr,.int .i64 o.ln,.string o.data]] w fun e w'=>(∃ v' c,e=.returned (.tuple #[v',.int .i64 c])∧PoolV v'∧c=(fileS p o).1∧(c=0->PoolT B w' v' (fileS p o).2∧(partsS p o).2.2.length<=1000))∧Below B w w'∧FrV w w':=by
 have hg:=h.at';obtain⟨ea,en,ec,va,vn,vc,ra,rn,rc,la,ln,lc,rows,rfl,h1,⟨h2,h3⟩,h4,h5,h6⟩:=h;have hs:=hd;obtain⟨z1,z2,z3,z4,z5,z6,z7,z8⟩:=hd;have hV:VsAt B w va vn p.vs:=h3.rows.vs h2;rw[hV.len] at z3;obtain⟨size,next,ex,vs,rf,lt⟩:=p;obtain⟨k,vol,file,tt,into,at0,fr,ln0,data⟩:=o;simp only at h1 h2 h3 h4 h5 hV z4 z3 hg hp hk ⊢;have _:=hB0;have _:=hNn;have _:=hBw;have _:=hp;have hn:vs.length=vn:=hV.len;have hv:rows.length=vn:=h2.sl.len;simp only at hso hfx hpo;subst hk;have hi:=ap_ hso;have hu:i<vn:=by omega
 have hx:vs[i]?=some vs[i]:=by simp[hi]
 have hA:(0:Int)<=(i:Int):=by omega
 have hq:(i:Int)<vn:=by omega
 have hr:rows[i]?=some (rows[i]'(by omega)):=by simp[hv,hu]
 have VT:=h3.at' i _ _ hr hx;generalize rows[i]'(by omega)=r0 at *;generalize vs[i]=x at *;obtain⟨rid,rnm,rfx,pa0,pn0,pc0⟩:=r0;obtain⟨e1,e2,e3,irows,RI,TI⟩:=VT;simp only at e1 e2 e3 RI;subst e1 e2 e3;obtain⟨vb,rfl,hB,ho,ht⟩:=h2.addr (by omega);have hf:=hfx _ hx;clear hfx;have hw:partsS ⟨size,next,ex,vs,rf,lt⟩ ⟨10,vol,file,tt,into,at0,fr,ln0,data⟩=(3,ex,[]):=by simp[partsS,hpo]
 have hS:Hid (fileS ⟨size,next,ex,vs,rf,lt⟩ ⟨10,vol,file,tt,into,at0,fr,ln0,data⟩=(3,⟨size,next,ex,vs,rf,lt⟩)):=by show _=_;simp[fileS,hso,hx,hf,hw]
 generalize hh:partsS ⟨size,next,ex,vs,rf,lt⟩ ⟨10,vol,file,tt,into,at0,fr,ln0,data⟩=PS at *;replace hh:Hid (partsS ⟨size,next,ex,vs,rf,lt⟩ ⟨10,vol,file,tt,into,at0,fr,ln0,data⟩=PS):=hh;generalize fileS ⟨size,next,ex,vs,rf,lt⟩ ⟨10,vol,file,tt,into,at0,fr,ln0,data⟩=R at *;have hy:Hid (x.fx=false):=hf;clear hf;go_enter func61,ntmps61
 go_wp2_with fail
 refine (ak_ B size next ea en ec (some ⟨vb,0,none⟩) vn vc ra rn rc la ln lc vs vol _ (hV.below (by go_grown)) z3).mono ?_;rintro e w1 ⟨rfl,hl⟩;obtain⟨C,O,D,ha,hD⟩:=bx3 hl;clear hl;rw[hso];simp only[idxV];obtain⟨c0,c1,c2,c3,c4,c5⟩:=C.six';obtain⟨o0,o1,o2,o3,o4,o5,o6,o7,o8⟩:=ce9 O;obtain⟨x0,x1,x2,x3,x4,x5⟩:=D.six';obtain⟨f0,f1,f2,f3,f4,f5⟩:=fz6 D;have RA:=h2.below ha;have e2:w1.cell? ⟨vb,i*4+2,none⟩=some (.bool x.fx):=RA.cellAt (j:=2) hr rfl;rw[hy.out] at e2
 go_wp2_with fail
 refine (aH_ B _ ⟨size,next,ex,vs,rf,lt⟩ vol file _ (hg.below ha) hs).mono ?_;rintro e wA ⟨he,hc⟩;obtain⟨qa,qn,qc,rfl,hQ⟩:=he.uni;clear he;have hm:partsOkB ((partsO vs vol file).getD [])=true:=bH_ (p:=⟨size,next,ex,vs,rf,lt⟩) hp;simp only at hQ ⊢;clear c0 c1 c2 c3 c4 c5 o0 o1 o2 o3 o4 o5 o6 o7 o8 x0 x1 x2 x3 x4 x5 f0 f1 f2 f3 f4 f5;have C':=C.below hc;have D':=D.below hc;have O':=O.below hc;have hb:=chain ha hc;have hC:=hc.size;clear C D O e2 RA;obtain⟨c0,c1,c2,c3,c4,c5⟩:=C'.six';obtain⟨o0,o1,o2,o3,o4,o5,o6,o7,o8⟩:=ce9 O';obtain⟨x0,x1,x2,x3,x4,x5⟩:=D'.six';obtain⟨f0,f1,f2,f3,f4,f5⟩:=fz6 D';rw[hpo] at hQ hm ⊢;simp only[Option.getD_none,Option.isSome_none] at hQ hm ⊢;go_wp2;obtain⟨W8,hj,W0,hz⟩:=set6 D' (.int .i64 size) (.int .i64 next) (.slice ea en ec) (.slice (some ⟨vb,0,none⟩) vn vc) (.slice ra rn rc) (.slice la ln lc);have B8:=hb.grown hz hb.size (fun j e=>by cases e;omega);rw[<-hj];clear hj;refine bodyPost_ret (ad_ rfl _ W8 (w.heap.size+2) _ _ _ _ _ rfl W0 underlying35 rfl (by kernel_rfl) rfl) rfl ?_;exact⟨⟨_,3,rfl,bm_ _ _ _ _ _ _ _ _ _ _ _ _ _ _,by rw[hS.out],fun h=>absurd h (by omega)⟩,B8.mono hBw,FrV.of B8⟩
theorem eH_ (B:Nat)(hB0:0<B)(v:Value)(p:Po)(o:Opr)(w:World)(h:PoolT B w v p)(hNn:NnE v)(hBw:B<=w.heap.size)(hd:DimP p)(hp:poolB p=true)(hk:o.k=5)(i:Nat)(hso:volI p.vs o.to=some i)(hfx:∀ x:Vo,p.vs[i]?=some x->x.fx=false)(hsr:partsO p.vs o.vol o.file=none):
  Calls prog 61 #[v,.agg #[.int .i64 o.k,.string o.vol,.string o.file,.string o.to,.string o.into,.int .i64 o.at',.int .i64 o.fr,.int .i64 o.ln,.string o.data]] w fun e w'=>(∃ v' c,e=.returned (.tuple #[v',.int .i64 c])∧PoolV v'∧c=(fileS p o).1∧(c=0->PoolT B w' v' (fileS p o).2∧(partsS p o).2.2.length<=1000))∧Below B w w'∧FrV w w':=by
 have hm:=h.at';obtain⟨ea,en,ec,va,vn,vc,ra,rn,rc,la,ln,lc,rows,rfl,h1,⟨h2,h3⟩,h4,h5,h6⟩:=h;have hs:=hd;obtain⟨z1,z2,z3,z4,z5,z6,z7,z8⟩:=hd;have hV:VsAt B w va vn p.vs:=h3.rows.vs h2;rw[hV.len] at z3;obtain⟨size,next,ex,vs,rf,lt⟩:=p;obtain⟨k,vol,file,tt,into,at0,fr,ln0,data⟩:=o;simp only at h1 h2 h3 h4 h5 hV z4 z3 hm hp hk ⊢;have _:=hB0;have _:=hNn;have _:=hBw;have _:=hp;have hy:vs.length=vn:=hV.len;have hE:rows.length=vn:=h2.sl.len;simp only at hso hfx hsr;subst hk;have hi:=ap_ hso;have hC:i<vn:=by omega
 have hx:vs[i]?=some vs[i]:=by simp[hi]
 have hI:(0:Int)<=(i:Int):=by omega
 have hA:(i:Int)<vn:=by omega
 have hr:rows[i]?=some (rows[i]'(by omega)):=by simp[hE,hC]
 have VT:=h3.at' i _ _ hr hx;generalize rows[i]'(by omega)=r0 at *;generalize vs[i]=x at *;obtain⟨rid,rnm,rfx,pa0,pn0,pc0⟩:=r0;obtain⟨e1,e2,e3,irows,RI,TI⟩:=VT;simp only at e1 e2 e3 RI;subst e1 e2 e3;obtain⟨vb,rfl,hJ,hz,hB⟩:=h2.addr (by omega);have hf:=hfx _ hx;clear hfx;have hF:partsS ⟨size,next,ex,vs,rf,lt⟩ ⟨5,vol,file,tt,into,at0,fr,ln0,data⟩=(3,ex,[]):=by simp[partsS,hsr]
 have hS:Hid (fileS ⟨size,next,ex,vs,rf,lt⟩ ⟨5,vol,file,tt,into,at0,fr,ln0,data⟩=(3,⟨size,next,ex,vs,rf,lt⟩)):=by show _=_;simp[fileS,hso,hx,hf,hF]
 generalize hq:partsS ⟨size,next,ex,vs,rf,lt⟩ ⟨5,vol,file,tt,into,at0,fr,ln0,data⟩=PS at *;replace hq:Hid (partsS ⟨size,next,ex,vs,rf,lt⟩ ⟨5,vol,file,tt,into,at0,fr,ln0,data⟩=PS):=hq;generalize fileS ⟨size,next,ex,vs,rf,lt⟩ ⟨5,vol,file,tt,into,at0,fr,ln0,data⟩=R at *;have hG:Hid (x.fx=false):=hf;clear hf;go_enter func61,ntmps61
 go_wp2_with fail
 refine (ak_ B size next ea en ec (some ⟨vb,0,none⟩) vn vc ra rn rc la ln lc vs tt _ (hV.below (by go_grown)) z3).mono ?_;rintro e w1 ⟨rfl,hv⟩;obtain⟨C,O,D,he,hL⟩:=bx3 hv;clear hv;rw[hso];simp only[idxV];obtain⟨c0,c1,c2,c3,c4,c5⟩:=C.six';obtain⟨o0,o1,o2,o3,o4,o5,o6,o7,o8⟩:=ce9 O;obtain⟨x0,x1,x2,x3,x4,x5⟩:=D.six';obtain⟨f0,f1,f2,f3,f4,f5⟩:=fz6 D;have RA:=h2.below he;have e2:w1.cell? ⟨vb,i*4+2,none⟩=some (.bool x.fx):=RA.cellAt (j:=2) hr rfl;rw[hG.out] at e2
 go_wp2_with fail
 refine (aH_ B _ ⟨size,next,ex,vs,rf,lt⟩ tt into _ (hm.below he) hs).mono ?_;rintro e wA ⟨hb,hh⟩;obtain⟨qa,qn,qc,rfl,hQ⟩:=hb.uni;clear hb;have hN:partsOkB ((partsO vs tt into).getD [])=true:=bH_ (p:=⟨size,next,ex,vs,rf,lt⟩) hp;simp only at hQ ⊢;clear c0 c1 c2 c3 c4 c5 o0 o1 o2 o3 o4 o5 o6 o7 o8 x0 x1 x2 x3 x4 x5 f0 f1 f2 f3 f4 f5;have C':=C.below hh;have D':=D.below hh;have O':=O.below hh;have hg:=chain he hh;have hK:=hh.size;clear C D O e2 RA;obtain⟨c0,c1,c2,c3,c4,c5⟩:=C'.six';obtain⟨o0,o1,o2,o3,o4,o5,o6,o7,o8⟩:=ce9 O';obtain⟨x0,x1,x2,x3,x4,x5⟩:=D'.six';obtain⟨f0,f1,f2,f3,f4,f5⟩:=fz6 D'
 go_wp2_with fail
 refine (aH_ B _ ⟨size,next,ex,vs,rf,lt⟩ vol file _ (hm.below hg) hs).mono ?_;rintro e wB ⟨hb,hl⟩;obtain⟨sa,sn,sc,rfl,hR⟩:=hb.uni;clear hb;simp only at hR ⊢;rw[hsr] at hR ⊢;simp only[Option.getD_none,Option.isSome_none] at hR ⊢;clear c0 c1 c2 c3 c4 c5 o0 o1 o2 o3 o4 o5 o6 o7 o8 x0 x1 x2 x3 x4 x5 f0 f1 f2 f3 f4 f5;have ht:=C'.below hl;have ho:=D'.below hl;have hc:=O'.below hl;have hn:=chain hg hl;have hO:=hl.size;clear C' D' O';obtain⟨c0,c1,c2,c3,c4,c5⟩:=ht.six';obtain⟨o0,o1,o2,o3,o4,o5,o6,o7,o8⟩:=ce9 hc;obtain⟨x0,x1,x2,x3,x4,x5⟩:=ho.six';obtain⟨f0,f1,f2,f3,f4,f5⟩:=fz6 ho
 go_wp2_with fail
 have g6:=gcell o6;have g7:=gcell o7;have hD:=aA_ wB;refine ab_ (by kernel_rfl) (by kernel_rfl) ?_
 repeat (go_big_quiet_step (fail))
 refine wpQuiet_nil ?_;intro wC hw;have ha:=ah_ hw;clear hw g6 g7 hD;have C3:=ht.below ha;have D3:=ho.below ha;have hj:=chain hn ha;have hM:=ha.size;clear c0 c1 c2 c3 c4 c5 o0 o1 o2 o3 o4 o5 o6 o7 o8 x0 x1 x2 x3 x4 x5 f0 f1 f2 f3 f4 f5;obtain⟨c0,c1,c2,c3,c4,c5⟩:=C3.six';have o0:wC.cell? ⟨w.heap.size+1,0,none⟩=some (.int .i64 5):=(hc.below ha).cell 0;have o1:wC.cell? ⟨w.heap.size+1,1,none⟩=some (.string vol):=(hc.below ha).cell 1;have o2:wC.cell? ⟨w.heap.size+1,2,none⟩=some (.string file):=(hc.below ha).cell 2;have o3:wC.cell? ⟨w.heap.size+1,3,none⟩=some (.string tt):=(hc.below ha).cell 3;have o4:wC.cell? ⟨w.heap.size+1,4,none⟩=some (.string into):=(hc.below ha).cell 4;have o5:wC.cell? ⟨w.heap.size+1,5,none⟩=some (.int .i64 at0):=(hc.below ha).cell 5;have o6:wC.cell? ⟨w.heap.size+1,6,none⟩=some (.int .i64 fr):=(hc.below ha).cell 6;have o7:wC.cell? ⟨w.heap.size+1,7,none⟩=some (.int .i64 ln0):=(hc.below ha).cell 7;have o8:wC.cell? ⟨w.heap.size+1,8,none⟩=some (.string data):=(hc.below ha).cell 8;obtain⟨x0,x1,x2,x3,x4,x5⟩:=D3.six';obtain⟨f0,f1,f2,f3,f4,f5⟩:=fz6 D3;go_wp2;obtain⟨W8,hu,W0,hH⟩:=set6 D3 (.int .i64 size) (.int .i64 next) (.slice ea en ec) (.slice (some ⟨vb,0,none⟩) vn vc) (.slice ra rn rc) (.slice la ln lc);have B8:=hj.grown hH hj.size (fun j e=>by cases e;omega);rw[<-hu];clear hu;refine bodyPost_ret (ad_ rfl _ W8 (w.heap.size+2) _ _ _ _ _ rfl W0 underlying35 rfl (by kernel_rfl) rfl) rfl ?_;exact⟨⟨_,3,rfl,bm_ _ _ _ _ _ _ _ _ _ _ _ _ _ _,by rw[hS.out],fun h=>absurd h (by omega)⟩,B8.mono hBw,FrV.of B8⟩
theorem fa_ (B:Nat)(hB0:0<B)(v:Value)(p:Po)(o:Opr)(w:World)(h:PoolT B w v p)(hNn:NnE v)(hBw:B<=w.heap.size)(hd:DimP p)(hp:poolB p=true)(hk:o.k=5)(i:Nat)(hso:volI p.vs o.to=some i)(hfx:∀ x:Vo,p.vs[i]?=some x->x.fx=false)(q2:List Pt)(hsr:partsO p.vs o.vol o.file=some q2)(hfr:0<=o.fr∧o.fr<=100)(hl:1<=o.ln∧o.ln<=100)(hgt:sumN q2<o.fr+o.ln):
  Calls prog 61 #[v,.agg #[.int .i64 o.k,.string o.vol,.string o.file,.string o.to,.string o.into,.int .i64 o.at',.int .i64 o.fr,.int .i64 o.ln,.string o.data]] w fun e w'=>(∃ v' c,e=.returned (.tuple #[v',.int .i64 c])∧PoolV v'∧c=(fileS p o).1∧(c=0->PoolT B w' v' (fileS p o).2∧(partsS p o).2.2.length<=1000))∧Below B w w'∧FrV w w':=by
 have ho:=h.at';obtain⟨ea,en,ec,va,vn,vc,ra,rn,rc,la,ln,lc,rows,rfl,h1,⟨h2,h3⟩,h4,h5,h6⟩:=h;have hw:=hd;obtain⟨z1,z2,z3,z4,z5,z6,z7,z8⟩:=hd;have hV:VsAt B w va vn p.vs:=h3.rows.vs h2;rw[hV.len] at z3;obtain⟨size,next,ex,vs,rf,lt⟩:=p;obtain⟨k,vol,file,tt,into,at0,fr,ln0,data⟩:=o;simp only at h1 h2 h3 h4 h5 hV z4 z3 ho hp hk ⊢;have _:=hB0;have _:=hNn;have _:=hBw;have _:=hp;have hD:vs.length=vn:=hV.len;have hJ:rows.length=vn:=h2.sl.len;simp only at hso hfx hsr hfr hl hgt;subst hk;have hi:=ap_ hso;have hH:i<vn:=by omega
 have hx:vs[i]?=some vs[i]:=by simp[hi]
 have hN:(0:Int)<=(i:Int):=by omega
 have hF:(i:Int)<vn:=by omega
 have hr:rows[i]?=some (rows[i]'(by omega)):=by simp[hJ,hH]
 have VT:=h3.at' i _ _ hr hx;generalize rows[i]'(by omega)=r0 at *;generalize vs[i]=x at *;obtain⟨rid,rnm,rfx,pa0,pn0,pc0⟩:=r0;obtain⟨e1,e2,e3,irows,RI,TI⟩:=VT;simp only at e1 e2 e3 RI;subst e1 e2 e3;obtain⟨vb,rfl,hO,hE,hG⟩:=h2.addr (by omega);have hf:=hfx _ hx;clear hfx;have hK:partsS ⟨size,next,ex,vs,rf,lt⟩ ⟨5,vol,file,tt,into,at0,fr,ln0,data⟩=(3,ex,[]):=by simp[partsS,hsr,hgt]
 have hS:Hid (fileS ⟨size,next,ex,vs,rf,lt⟩ ⟨5,vol,file,tt,into,at0,fr,ln0,data⟩=(3,⟨size,next,ex,vs,rf,lt⟩)):=by show _=_;simp[fileS,hso,hx,hf,hK]
 generalize hv:partsS ⟨size,next,ex,vs,rf,lt⟩ ⟨5,vol,file,tt,into,at0,fr,ln0,data⟩=PS at *;replace hv:Hid (partsS ⟨size,next,ex,vs,rf,lt⟩ ⟨5,vol,file,tt,into,at0,fr,ln0,data⟩=PS):=hv;generalize fileS ⟨size,next,ex,vs,rf,lt⟩ ⟨5,vol,file,tt,into,at0,fr,ln0,data⟩=R at *;have hL:Hid (x.fx=false):=hf;clear hf;go_enter func61,ntmps61
 go_wp2_with fail
 refine (ak_ B size next ea en ec (some ⟨vb,0,none⟩) vn vc ra rn rc la ln lc vs tt _ (hV.below (by go_grown)) z3).mono ?_;rintro e w1 ⟨rfl,hA⟩;obtain⟨C,O,D,hc,hT⟩:=bx3 hA;clear hA;rw[hso];simp only[idxV];obtain⟨c0,c1,c2,c3,c4,c5⟩:=C.six';obtain⟨o0,o1,o2,o3,o4,o5,o6,o7,o8⟩:=ce9 O;obtain⟨x0,x1,x2,x3,x4,x5⟩:=D.six';obtain⟨f0,f1,f2,f3,f4,f5⟩:=fz6 D;have RA:=h2.below hc;have e2:w1.cell? ⟨vb,i*4+2,none⟩=some (.bool x.fx):=RA.cellAt (j:=2) hr rfl;rw[hL.out] at e2
 go_wp2_with fail
 refine (aH_ B _ ⟨size,next,ex,vs,rf,lt⟩ tt into _ (ho.below hc) hw).mono ?_;rintro e wA ⟨ha,hh⟩;obtain⟨qa,qn,qc,rfl,hQ⟩:=ha.uni;clear ha;have hY:partsOkB ((partsO vs tt into).getD [])=true:=bH_ (p:=⟨size,next,ex,vs,rf,lt⟩) hp;simp only at hQ ⊢;clear c0 c1 c2 c3 c4 c5 o0 o1 o2 o3 o4 o5 o6 o7 o8 x0 x1 x2 x3 x4 x5 f0 f1 f2 f3 f4 f5;have C':=C.below hh;have D':=D.below hh;have O':=O.below hh;have hg:=chain hc hh;have hP:=hh.size;clear C D O e2 RA;obtain⟨c0,c1,c2,c3,c4,c5⟩:=C'.six';obtain⟨o0,o1,o2,o3,o4,o5,o6,o7,o8⟩:=ce9 O';obtain⟨x0,x1,x2,x3,x4,x5⟩:=D'.six';obtain⟨f0,f1,f2,f3,f4,f5⟩:=fz6 D'
 go_wp2_with fail
 refine (aH_ B _ ⟨size,next,ex,vs,rf,lt⟩ vol file _ (ho.below hg) hw).mono ?_;rintro e wB ⟨ha,hn⟩;obtain⟨sa,sn,sc,rfl,hR⟩:=ha.uni;clear ha;simp only at hR ⊢;rw[hsr] at hR ⊢;simp only[Option.getD_some,Option.isSome_some] at hR ⊢;clear c0 c1 c2 c3 c4 c5 o0 o1 o2 o3 o4 o5 o6 o7 o8 x0 x1 x2 x3 x4 x5 f0 f1 f2 f3 f4 f5;have hy:=C'.below hn;have ht:=D'.below hn;have hC:=O'.below hn;have hq:=chain hg hn;have hZ:=hn.size;clear C' D' O';obtain⟨c0,c1,c2,c3,c4,c5⟩:=hy.six';obtain⟨o0,o1,o2,o3,o4,o5,o6,o7,o8⟩:=ce9 hC;obtain⟨x0,x1,x2,x3,x4,x5⟩:=ht.six';obtain⟨f0,f1,f2,f3,f4,f5⟩:=fz6 ht;have he:partsOkB q2=true:=(bb_ (p:=⟨size,next,ex,vs,rf,lt⟩) hp hsr).1;have hW:sn<=16:=by rw[<-hR.len];exact (ae_ he).1
 have hs:∀ k,0<=sumN (q2.take k)∧sumN (q2.take k)<=100:=fun k=>by have h1:=a6_ (ae_ he).2.1 k;have h2:=(ae_ he).2.2;omega
 have hX:IntKind.i64.wrap (fr+ln0)=fr+ln0:=by rw[IntKind.wrap_i64];omega
 have hb:=fun (u:World) (hu:Below wB.heap.size wB u)=>aZ_ sa sn sc q2 u (hR.below hu) (by omega) hs
 go_wp2_with fail
 have g6:=gcell o6;have g7:=gcell o7;have hI:=aA_ wB;refine ab_ (by kernel_rfl) (by kernel_rfl) ?_
 repeat (go_big_quiet_step (first | (go_at_call 110;exact am_ (hb _ (Grw.h _)))))
 refine wpQuiet_nil ?_;intro wC hB;have hj:=ah_ hB;clear hB g6 g7 hI hb;have C3:=hy.below hj;have D3:=ht.below hj;have O3:=hC.below hj;have hm:=chain hq hj;have hU:=hj.size;clear c0 c1 c2 c3 c4 c5 o0 o1 o2 o3 o4 o5 o6 o7 o8 x0 x1 x2 x3 x4 x5 f0 f1 f2 f3 f4 f5;obtain⟨c0,c1,c2,c3,c4,c5⟩:=C3.six';obtain⟨o0,o1,o2,o3,o4,o5,o6,o7,o8⟩:=ce9 O3;obtain⟨x0,x1,x2,x3,x4,x5⟩:=D3.six';obtain⟨f0,f1,f2,f3,f4,f5⟩:=fz6 D3;go_wp2;obtain⟨W8,hz,W0,hM⟩:=set6 D3 (.int .i64 size) (.int .i64 next) (.slice ea en ec) (.slice (some ⟨vb,0,none⟩) vn vc) (.slice ra rn rc) (.slice la ln lc);have B8:=hm.grown hM hm.size (fun j e=>by cases e;omega);rw[<-hz];clear hz;refine bodyPost_ret (ad_ rfl _ W8 (w.heap.size+2) _ _ _ _ _ rfl W0 underlying35 rfl (by kernel_rfl) rfl) rfl ?_;exact⟨⟨_,3,rfl,bm_ _ _ _ _ _ _ _ _ _ _ _ _ _ _,by rw[hS.out],fun h=>absurd h (by omega)⟩,B8.mono hBw,FrV.of B8⟩
theorem gv_ (B:Nat)(hB0:0<B)(v:Value)(p:Po)(o:Opr)(w:World)(h:PoolT B w v p)(hNn:NnE v)(hBw:B<=w.heap.size)(hd:DimP p)(hp:poolB p=true)(hk:o.k=5)(i:Nat)(hso:volI p.vs o.to=some i)(hfx:∀ x:Vo,p.vs[i]?=some x->x.fx=false)(q2:List Pt)(hsr:partsO p.vs o.vol o.file=some q2)(hfr:0<=o.fr∧o.fr<=100)(hl:1<=o.ln∧o.ln<=100)(ha:0<=o.at'∧o.at'<=100)(hgt:¬ sumN q2<o.fr+o.ln)(hok2:partsOkB (joinL [] (slp o.fr (o.fr+o.ln) 0 q2))=true):
  Calls prog 61 #[v,.agg #[.int .i64 o.k,.string o.vol,.string o.file,.string o.to,.string o.into,.int .i64 o.at',.int .i64 o.fr,.int .i64 o.ln,.string o.data]] w fun e w'=>(∃ v' c,e=.returned (.tuple #[v',.int .i64 c])∧PoolV v'∧c=(fileS p o).1∧(c=0->PoolT B w' v' (fileS p o).2∧(partsS p o).2.2.length<=1000))∧Below B w w'∧FrV w w':=by
 have hC:=h.at';obtain⟨ea,en,ec,va,vn,vc,ra,rn,rc,la,ln,lc,rows,rfl,h1,⟨h2,h3⟩,h4,h5,h6⟩:=h;have hN:=hd;obtain⟨z1,z2,z3,z4,z5,z6,z7,z8⟩:=hd;have hV:VsAt B w va vn p.vs:=h3.rows.vs h2;rw[hV.len] at z3;obtain⟨size,next,ex,vs,rf,lt⟩:=p;obtain⟨k,vol,file,tt,into,at0,fr,ln0,data⟩:=o;simp only at h1 h2 h3 h4 h5 hV z4 z3 hC hp hk ⊢;have _:=hB0;have _:=hNn;have _:=hBw;have _:=hp;have hZ:vs.length=vn:=hV.len;have qi:rows.length=vn:=h2.sl.len;simp only at hso hfx hsr hfr hl ha hgt hok2;subst hk;have hi:=ap_ hso;have qh:i<vn:=by omega
 have hx:vs[i]?=some vs[i]:=by simp[hi]
 have ql:(0:Int)<=(i:Int):=by omega
 have h8:(i:Int)<vn:=by omega
 have hr:rows[i]?=some (rows[i]'(by omega)):=by simp[qi,qh]
 have VT:=h3.at' i _ _ hr hx;generalize rows[i]'(by omega)=r0 at *;generalize vs[i]=x at *;obtain⟨rid,rnm,rfx,pa0,pn0,pc0⟩:=r0;obtain⟨e1,e2,e3,irows,RI,TI⟩:=VT;simp only at e1 e2 e3 RI;subst e1 e2 e3;obtain⟨vb,rfl,hY,h0,qb⟩:=h2.addr (by omega);have hf:=hfx _ hx;clear hfx;have qj:partsS ⟨size,next,ex,vs,rf,lt⟩ ⟨5,vol,file,tt,into,at0,fr,ln0,data⟩=(0,ex,laidJ ((partsO vs tt into).getD []) at0 (joinL [] (slp fr (fr+ln0) 0 q2))):=by simp[partsS,hsr,hgt]
 have hS:Hid (fileS ⟨size,next,ex,vs,rf,lt⟩ ⟨5,vol,file,tt,into,at0,fr,ln0,data⟩=(0,⟨size,next,ex,vs.set i ⟨x.id,x.nm,x.fx,setI ⟨into,laidJ ((partsO vs tt into).getD []) at0 (joinL [] (slp fr (fr+ln0) 0 q2))⟩ x.its⟩,rf,lt⟩)):=by show _=_;simp[fileS,hso,hx,hf,qj]
 generalize hM:partsS ⟨size,next,ex,vs,rf,lt⟩ ⟨5,vol,file,tt,into,at0,fr,ln0,data⟩=PS at *;replace hM:Hid (partsS ⟨size,next,ex,vs,rf,lt⟩ ⟨5,vol,file,tt,into,at0,fr,ln0,data⟩=PS):=hM;generalize fileS ⟨size,next,ex,vs,rf,lt⟩ ⟨5,vol,file,tt,into,at0,fr,ln0,data⟩=R at *;have qk:Hid (x.fx=false):=hf;clear hf;go_enter func61,ntmps61
 go_wp2_with fail
 refine (ak_ B size next ea en ec (some ⟨vb,0,none⟩) vn vc ra rn rc la ln lc vs tt _ (hV.below (by go_grown)) z3).mono ?_;rintro e w1 ⟨rfl,hT⟩;obtain⟨C,O,D,ht,qp⟩:=bx3 hT;clear hT;rw[hso];simp only[idxV];obtain⟨c0,c1,c2,c3,c4,c5⟩:=C.six';obtain⟨o0,o1,o2,o3,o4,o5,o6,o7,o8⟩:=ce9 O;obtain⟨x0,x1,x2,x3,x4,x5⟩:=D.six';obtain⟨f0,f1,f2,f3,f4,f5⟩:=fz6 D;have RA:=h2.below ht;have e2:w1.cell? ⟨vb,i*4+2,none⟩=some (.bool x.fx):=RA.cellAt (j:=2) hr rfl;rw[qk.out] at e2
 go_wp2_with fail
 refine (aH_ B _ ⟨size,next,ex,vs,rf,lt⟩ tt into _ (hC.below ht) hN).mono ?_;rintro e wA ⟨hg,hy⟩;obtain⟨qa,qn,qc,rfl,hQ⟩:=hg.uni;clear hg;have qg:partsOkB ((partsO vs tt into).getD [])=true:=bH_ (p:=⟨size,next,ex,vs,rf,lt⟩) hp;simp only at hQ ⊢;clear c0 c1 c2 c3 c4 c5 o0 o1 o2 o3 o4 o5 o6 o7 o8 x0 x1 x2 x3 x4 x5 f0 f1 f2 f3 f4 f5;have C':=C.below hy;have D':=D.below hy;have O':=O.below hy;have hw:=chain ht hy;have qm:=hy.size;clear C D O e2 RA;obtain⟨c0,c1,c2,c3,c4,c5⟩:=C'.six';obtain⟨o0,o1,o2,o3,o4,o5,o6,o7,o8⟩:=ce9 O';obtain⟨x0,x1,x2,x3,x4,x5⟩:=D'.six';obtain⟨f0,f1,f2,f3,f4,f5⟩:=fz6 D';generalize (partsO vs tt into).getD []=Q at *
 go_wp2_with fail
 refine (aH_ B _ ⟨size,next,ex,vs,rf,lt⟩ vol file _ (hC.below hw) hN).mono ?_;rintro e wB ⟨hg,hv⟩;obtain⟨sa,sn,sc,rfl,hR⟩:=hg.uni;clear hg;simp only at hR ⊢;rw[hsr] at hR ⊢;simp only[Option.getD_some,Option.isSome_some] at hR ⊢;clear c0 c1 c2 c3 c4 c5 o0 o1 o2 o3 o4 o5 o6 o7 o8 x0 x1 x2 x3 x4 x5 f0 f1 f2 f3 f4 f5;have hO:=C'.below hv;have hF:=D'.below hv;have hX:=O'.below hv;have hD:=chain hw hv;have qv:=hv.size;clear C' D' O';obtain⟨c0,c1,c2,c3,c4,c5⟩:=hO.six';obtain⟨o0,o1,o2,o3,o4,o5,o6,o7,o8⟩:=ce9 hX;obtain⟨x0,x1,x2,x3,x4,x5⟩:=hF.six';obtain⟨f0,f1,f2,f3,f4,f5⟩:=fz6 hF;have hn:partsOkB q2=true:=(bb_ (p:=⟨size,next,ex,vs,rf,lt⟩) hp hsr).1;have h9:sn<=16:=by rw[<-hR.len];exact (ae_ hn).1
 have hE:∀ k,0<=sumN (q2.take k)∧sumN (q2.take k)<=100:=fun k=>by have h1:=a6_ (ae_ hn).2.1 k;have h2:=(ae_ hn).2.2;omega
 have qs:IntKind.i64.wrap (fr+ln0)=fr+ln0:=by rw[IntKind.wrap_i64];omega
 have hq:=fun (u:World) (hu:Below wB.heap.size wB u)=>aZ_ sa sn sc q2 u (hR.below hu) (by omega) hE
 go_wp2_with fail
 have g6:=gcell o6;have g7:=gcell o7;have hz:=aA_ wB;refine ab_ (by kernel_rfl) (by kernel_rfl) ?_
 repeat (go_big_quiet_step (first | (go_at_call 110;exact am_ (hq _ (Grw.h _)))))
 refine wpQuiet_nil ?_;intro wC hU;have hs:=ah_ hU;clear hU g6 g7 hz hq;have C3:=hO.below hs;have D3:=hF.below hs;have O3:=hX.below hs;have hG:=chain hD hs;have qr:=hs.size;clear c0 c1 c2 c3 c4 c5 o0 o1 o2 o3 o4 o5 o6 o7 o8 x0 x1 x2 x3 x4 x5 f0 f1 f2 f3 f4 f5;have o5:wC.cell? ⟨w.heap.size+1,5,none⟩=some (.int .i64 at0):=O3.cell 5;have o6:wC.cell? ⟨w.heap.size+1,6,none⟩=some (.int .i64 fr):=O3.cell 6;have o7:wC.cell? ⟨w.heap.size+1,7,none⟩=some (.int .i64 ln0):=O3.cell 7
 go_wp2_with fail
 have ho:∀ u,Below wC.heap.size wC u->(fun u=>u.cell? ⟨w.heap.size+1,5,none⟩=some (.int .i64 at0)∧u.cell? ⟨w.heap.size+1,6,none⟩=some (.int .i64 fr)∧u.cell? ⟨w.heap.size+1,7,none⟩=some (.int .i64 ln0)) u:=fun u hu=>⟨bcell hu o5,bcell hu o6,bcell hu o7⟩;have hW:=ho wC.drew ((Below.refl _ _).drew);refine ar_ (S:=(fun u=>u.cell? ⟨w.heap.size+1,5,none⟩=some (.int .i64 at0)∧u.cell? ⟨w.heap.size+1,6,none⟩=some (.int .i64 fr)∧u.cell? ⟨w.heap.size+1,7,none⟩=some (.int .i64 ln0))) 13 (by kernel_rfl) (by kernel_rfl) ?_;refine tk 0 ?_;refine tk 1 ?_;refine tk 2 ?_;refine tk 3 ?_;refine tk 4 ?_;refine tk 5 ?_;refine tk 6 ?_;refine tk 7 ?_;refine tk 8 ?_;refine tk 9 ?_;refine tk 10 ?_;refine oneL (i:=11) (by kernel_rfl) rfl (fun K hK=>?_);go_simp;refine (ba_ sa sn sc q2 fr (fr+ln0) _ ((hR.below hs).below ((Below.refl _ _).drew)) h9 (hq_ hn) hfr.1 (by omega) (by omega) (by omega)).mono ?_;rintro e wD ⟨⟨da,dn,dc,rfl,qw,RD⟩,hH⟩;have hA:Below wC.heap.size wC wD:=chain ((Below.refl _ _).drew) hH;have qx:=hA.size;dsimp only;refine hK.out _ _ (ho _ hA) (fun hHeld=>?_);clear hK K
 try simp only[Act.put,lsA,lsB,lsC]
 refine oneL (i:=12) (by kernel_rfl) rfl (fun K hK=>?_);go_simp;refine (cM_ qa qn qc Q at0 da dn dc (joinL [] (slp fr (fr+ln0) 0 q2)) _ (((hQ.below hv).below hs).below hA) RD.sl qg hok2 ha.1 ha.2).mono ?_;rintro e wL ⟨⟨pa1,pn1,pc1,rfl,qu,Rp⟩,h7⟩;have hB:Below wC.heap.size wC wL:=chain hA h7;dsimp only;refine hK.out _ _ (ho _ hB) (fun hHeld=>?_);clear hK K
 try simp only[Act.put,lsA,lsB,lsC]
 refine wpAnyH_done (by kernel_rfl) ?_ _;refine lastL rfl ?_;have CL:=C3.below hB;have DL:=D3.below hB;have hc:=chain hG hB;have qf:B<=wD.heap.size:=by omega
 clear o5 o6 o7 ho hW hHeld;have RL:=h2.below hc;have e0:wL.cell? ⟨vb,i*4,none⟩=some (.int .i64 x.id):=RL.cellAt (j:=0) hr rfl;have e1:wL.cell? ⟨vb,i*4+1,none⟩=some (.string x.nm):=RL.cellAt (j:=1) hr rfl;have e2:wL.cell? ⟨vb,i*4+2,none⟩=some (.bool x.fx):=RL.cellAt (j:=2) hr rfl;have e3:wL.cell? ⟨vb,i*4+3,none⟩=some (.slice pa0 pn0 pc0):=RL.cellAt (j:=3) hr rfl;have k3:wL.cell? ⟨w.heap.size,3,none⟩=some (.slice (some ⟨vb,0,none⟩) vn vc):=CL.cell 3;have qq:=hc.size;have qd:pn0<=4194304:=by have:=(z4 x (Zc hx)).2.1;rw[(TI.rows.its RI).len] at this;exact this
 go_wp2_with fail
 have ho:∀ u,Below wL.heap.size wL u->(fun u=>u.cell? ⟨w.heap.size,3,none⟩=some (.slice (some ⟨vb,0,none⟩) vn vc)∧u.cell? ⟨vb,i*4,none⟩=some (.int .i64 x.id)∧u.cell? ⟨vb,i*4+1,none⟩=some (.string x.nm)∧u.cell? ⟨vb,i*4+2,none⟩=some (.bool x.fx)∧u.cell? ⟨vb,i*4+3,none⟩=some (.slice pa0 pn0 pc0)) u:=fun u hu=>⟨bcell hu k3,bcell hu e0,bcell hu e1,bcell hu e2,bcell hu e3⟩;have hW:=ho wL.drew ((Below.refl _ _).drew);refine ar_ (S:=(fun u=>u.cell? ⟨w.heap.size,3,none⟩=some (.slice (some ⟨vb,0,none⟩) vn vc)∧u.cell? ⟨vb,i*4,none⟩=some (.int .i64 x.id)∧u.cell? ⟨vb,i*4+1,none⟩=some (.string x.nm)∧u.cell? ⟨vb,i*4+2,none⟩=some (.bool x.fx)∧u.cell? ⟨vb,i*4+3,none⟩=some (.slice pa0 pn0 pc0))) 12 (by kernel_rfl) (by kernel_rfl) ?_;refine tk 0 ?_;refine tk 1 ?_;refine tk 2 ?_;refine tk 3 ?_;refine tk 4 ?_;refine tk 5 ?_;refine tk 6 ?_;refine tk 7 ?_;refine tk 8 ?_;refine tk 9 ?_;refine oneL (i:=10) (by kernel_rfl) rfl (fun K hK=>?_);go_simp;refine (cB_ B x.id x.nm x.fx x.its pa0 pn0 pc0 irows into pa1 pn1 pc1 (laidJ Q at0 (joinL [] (slp fr (fr+ln0) 0 q2))) _ ((RI.below hc).below ((Below.refl _ _).drew)) ((TI.below hc).below ((Below.refl _ _).drew)) ((Rp.mono qf).below ((Below.refl _ _).drew)) qd).mono ?_;rintro e w5 ⟨⟨a2,n2,cap2,nrows,rfl,RN,TN⟩,hI⟩;have hh:Below wL.heap.size wL w5:=chain ((Below.refl _ _).drew) hI;have qo:=hh.size;dsimp only;refine hK.out _ _ (ho _ hh) (fun hHeld=>?_);clear hK K
 try simp only[Act.put,lsA,lsB,lsC]
 refine tk 11 ?_;refine wpAnyH_done (by kernel_rfl) ?_ _;refine lastL rfl ?_;have hj:=chain hc hh;have hJ:=RL.below hh;obtain⟨vcs,VB⟩:=hJ.blkAt;have z0:=VB.frozen (i*4);have z1':=VB.frozen (i*4+1);have z2':=VB.frozen (i*4+2);have z3':=VB.frozen (i*4+3);have v0:=bcell hh e0;have v1:=bcell hh e1;have v2:=bcell hh e2;have v3:=bcell hh e3;have he:=grown4 w5 vb (i*4) (.int .i64 x.id) (.string x.nm) (.bool x.fx) (.slice a2 n2 cap2);have hm:RowTy w5 (some vb) 97:=aa_ VB;have R1:=hJ.set4V hr ⟨x.id,x.nm,x.fx,a2,n2,cap2⟩;simp only at R1;have T1:=((h3.below hj).ty he hm (by decide) (by decide)).set i (show VolT B _ ⟨x.id,x.nm,x.fx,a2,n2,cap2⟩ ⟨x.id,x.nm,x.fx,setI ⟨into,(laidJ Q at0 (joinL [] (slp fr (fr+ln0) 0 q2)))⟩ x.its⟩ from ⟨rfl,rfl,rfl,nrows,(RN.ty he hm (by decide)).mono (by simp only[World.size_drew] at *;omega),TN.ty he hm (by decide)⟩);have C2:=(CL.below hh).ty he hm (by decide);have D2:=(DL.below hh).ty he hm (by decide);have P2:PoolT B ((((w5.setCell ⟨vb,i*4,none⟩ (.int .i64 x.id)).setCell ⟨vb,i*4+1,none⟩ (.string x.nm)).setCell ⟨vb,i*4+2,none⟩ (.bool x.fx)).setCell ⟨vb,i*4+3,none⟩ (.slice a2 n2 cap2)) (.agg #[.int .i64 size,.int .i64 next,.slice ea en ec,.slice (some ⟨vb,0,none⟩) vn vc,.slice ra rn rc,.slice la ln lc]) ⟨size,next,ex,vs.set i ⟨x.id,x.nm,x.fx,setI ⟨into,laidJ Q at0 (joinL [] (slp fr (fr+ln0) 0 q2))⟩ x.its⟩,rf,lt⟩:=⟨ea,en,ec,some ⟨vb,0,none⟩,vn,vc,ra,rn,rc,la,ln,lc,_,rfl,((h1.below hc).below hh).ty he hm (by decide),⟨R1,T1⟩,(h4.below hj).ty he hm (by decide),(h5.below hj).ty he hm (by decide),h6⟩;obtain⟨y0,y1,y2,y3,y4,y5⟩:=C2.six';obtain⟨q0,q1,q2,q3,q4,q5⟩:=D2.six';obtain⟨m0,m1,m2,m3,m4,m5⟩:=fz6 D2;have qe:=(hj.mono hBw).grown he (by omega) (fun j e=>by cases e;exact hY);have qt:=he.size;have FT0:Hid (FrV w ((((w5.setCell ⟨vb,i*4,none⟩ (.int .i64 x.id)).setCell ⟨vb,i*4+1,none⟩ (.string x.nm)).setCell ⟨vb,i*4+2,none⟩ (.bool x.fx)).setCell ⟨vb,i*4+3,none⟩ (.slice a2 n2 cap2))):=fun k c t hb hz=>(hb.below hj).ty he hm hz;clear R1 T1 he hJ VB hm ho;go_wp2;obtain⟨W8,hP,W0,hL⟩:=set6 D2 (.int .i64 size) (.int .i64 next) (.slice ea en ec) (.slice (some ⟨vb,0,none⟩) vn vc) (.slice ra rn rc) (.slice la ln lc);have PF:=P2.tyP hL (aa_ D2);have B8:=qe.grown hL (by omega) (fun j e=>by cases e;omega);have FT:=fun (k:Nat) (c:Array Value) (t:TypeId) (hb:Blk w k c t) (hz:t≠97)=>(FT0.out k c t hb hz).offB hL (B:=w.heap.size) (fun j e=>by cases e;omega) hb.lt;rw[<-hP];clear hP;refine bodyPost_ret (ad_ rfl _ W8 (w.heap.size+2) _ _ _ _ _ rfl W0 underlying35 rfl (by kernel_rfl) rfl) rfl ?_;exact⟨⟨_,0,rfl,bm_ _ _ _ _ _ _ _ _ _ _ _ _ _ _,by rw[hS.out],fun _=>⟨by rw[hS.out];exact PF,by exact Zl (Zm Rp.sl.len) (by omega)⟩⟩,B8,FT⟩
theorem oM_:∀ {L:List Ex} {next:Int},xgo size next L=true->1<=next->∀ x∈ggo size next L,1<=x.1∧x.1<=size
 |[],next,_,h1,x,hx=>by
  unfold ggo at hx;split at hx
  ·simp at hx;subst hx;exact⟨h1,by assumption⟩
  ·cases hx
 |e::r,next,h,h1,x,hx=>by
  simp only[xgo,Zf,ZU] at h;have ha:=bl_ h.1.1.1;unfold ggo at hx;rcases Zs.1 hx with hx | hx
  ·split at hx
   ·simp at hx;subst hx;simp only;omega
   ·cases hx
  ·exact oM_ h.2 (by omega) x hx
theorem gw_ {a:Int}{l L:List Ex}{d:ByteArray}(h:placedO size l d=some (L,a)):1<=a∧a<=400:=by
 unfold placedO at h;split at h
 ·rename_i hc;obtain⟨s1,s2,_,hx⟩:=cu_ hc.1
  cases hf:(ggo size 1 l).find? (fun x=>decide ((d.size:Int)<=x.2)) with
  |none=>rw[hf] at h;simp at h
  |some y=>
   rw[hf] at h;simp at h
   have:=oM_ hx (by omega) y (List.mem_of_find?_eq_some hf)
   omega
 ·cases h
theorem mU_ {fr to:Int}:∀ {l:List Pt} {st:Int},(slp fr to st l).length<=l.length
 |[],_=>Zd _
 |p::r,st=>by
  have:=mU_ (fr:=fr) (to:=to) (l:=r) (st:=st+p.n)
  unfold slp;split
  ·simp only[Zw];omega
  ·simp only[Zw];omega
theorem h1_:∀ {m l:List Pt},(joinL l m).length<=l.length+m.length
 |[],l=>Zd _
 |p::r,l=>by
  have h1:=h1_ (m:=r) (l:=addL l p);have h2:=fL_ l p;show (joinL (addL l p) r).length<=_;simp only[Zw];omega
theorem nG_ {q:List Pt}(h:partsOkB q=true)(fr to:Int):partsOkB (joinL [] (slp fr to 0 q))=true:=by
 have ha:=(ae_ h).1;have hl:=mU_ (fr:=fr) (to:=to) (l:=q) (st:=0)
 have hm:partsOkB (slp fr to 0 q)=true:=by
  unfold partsOkB;rw[b8_ h fr to];simp;omega
 rw[iw_ (l:=[]) rfl hm];have hs:=(ae_ hm).2.2;have hj:=h1_ (m:=slp fr to 0 q) (l:=[]);simp only[List.length_nil] at hj;simp[sumN];omega
theorem gN_ (B:Nat)(hB0:0<B)(v:Value)(p:Po)(o:Opr)(w:World)(h:PoolT B w v p)(hNn:NnE v)(hBw:B<=w.heap.size)(hd:DimP p)(hp:poolB p=true)(hop:opB o=true)(hk:o.k=2∨o.k=3∨o.k=5∨o.k=10):
  Calls prog 61 #[v,.agg #[.int .i64 o.k,.string o.vol,.string o.file,.string o.to,.string o.into,.int .i64 o.at',.int .i64 o.fr,.int .i64 o.ln,.string o.data]] w fun e w'=>(∃ v' c,e=.returned (.tuple #[v',.int .i64 c])∧PoolV v'∧c=(fileS p o).1∧(c=0->PoolT B w' v' (fileS p o).2∧(partsS p o).2.2.length<=1000))∧Below B w w'∧FrV w w':=by
 by_cases h5:o.k=5
 ·have hb:=hop;simp[opB,h5,inB] at hb
  cases ha:volI p.vs o.to with
  |none=>exact f3_ B hB0 v p o w h hNn hBw hd hp h5 ha
  |some i=>
   have hx:p.vs[i]?=some (p.vs[i]'(ap_ ha)):=by simp[ap_ ha]
   cases hf:(p.vs[i]'(ap_ ha)).fx with
   |true=>exact fC_ B hB0 v p o w h hNn hBw hd hp h5 i ha (fun x e=>by rw[hx] at e;cases e;exact hf)
   |false=>
    have hc:∀ x:Vo,p.vs[i]?=some x->x.fx=false:=fun x e=>by rw[hx] at e;cases e;exact hf
    cases hs:partsO p.vs o.vol o.file with
    |none=>exact eH_ B hB0 v p o w h hNn hBw hd hp h5 i ha hc hs
    |some q=>
     by_cases hg:sumN q<o.fr+o.ln
     ·exact fa_ B hB0 v p o w h hNn hBw hd hp h5 i ha hc q hs (by omega) (by omega) hg
     ·exact gv_ B hB0 v p o w h hNn hBw hd hp h5 i ha hc q hs (by omega) (by omega) (by omega) hg (nG_ (bb_ hp hs).1 _ _)
 ·cases ha:volI p.vs o.vol with
  |none=>exact gt_ B hB0 v p o w h hNn hBw hd hp h5 ha
  |some i=>
   have hx:p.vs[i]?=some (p.vs[i]'(ap_ ha)):=by simp[ap_ ha]
   cases hf:(p.vs[i]'(ap_ ha)).fx with
   |true=>exact f2_ B hB0 v p o w h hNn hBw hd hp h5 i ha (fun x e=>by rw[hx] at e;cases e;exact hf)
   |false=>
    have hc:∀ x:Vo,p.vs[i]?=some x->x.fx=false:=fun x e=>by rw[hx] at e;cases e;exact hf
    rcases hk with h1 | h1 | h1 | h1
    ·have hb:=hop;simp[opB,h1,inB] at hb
     cases he:placedO p.size p.ex o.data with
     |none=>exact gu_ B hB0 v p o w h hNn hBw hd hp h1 i ha hc (by simp[hb]) he
     |some La=>
      obtain⟨L,a⟩:=La;exact f7_ B hB0 v p o w h hNn hBw hd hp h1 i ha hc (by simp[hb]) (by omega) L a (gw_ he) he
    ·have hb:=hop;simp[opB,h1,inB] at hb
     cases hs:partsO p.vs o.vol o.file with
     |none=>exact e9_ B hB0 v p o w h hNn hBw hd hp h1 i ha hc hs
     |some q=>
      by_cases hg:sumN q<o.ln
      ·exact e7_ B hB0 v p o w h hNn hBw hd hp h1 i ha hc q hs (by omega) hg
      ·exact e8_ B hB0 v p o w h hNn hBw hd hp h1 i ha hc q hs (by omega) hg
    ·exact absurd h1 h5
    ·have hb:=hop;simp[opB,h1,inB] at hb
     cases hs:partsO p.vs o.vol o.file with
     |none=>exact ei_ B hB0 v p o w h hNn hBw hd hp h1 i ha hc hs
     |some q=>exact f6_ B hB0 v p o w h hNn hBw hd hp h1 i ha hc q hs (by omega) (by omega)
end
section
open Go Go.RowKit
variable{l:List Vo}{o:Opr}{p:Po}
theorem kW_ {c:Ct}:∀ {l:List Ct} {x:Ct},x∈addC l c->x.o=c.o∨∃ d∈l,x.o=d.o
 |[],x,h=>by simp[addC] at h;subst h;exact .inl rfl
 |y::r,x,h=>by
  unfold addC at h;split at h
  ·rcases Zn.1 h with rfl | h
   ·exact .inr ⟨x,by simp,rfl⟩
   ·rcases kW_ h with h | ⟨d,hd,h⟩
    ·exact .inl h
    ·exact .inr ⟨d,by simp[hd],h⟩
  ·split at h
   ·split at h
    ·rcases Zn.1 h with rfl | h
     ·exact .inl rfl
     ·exact .inr ⟨x,by simp[h],rfl⟩
    ·exact .inr ⟨x,by simp[h],rfl⟩
   ·rcases Zn.1 h with rfl | h
    ·exact .inl rfl
    ·exact .inr ⟨x,h,rfl⟩
theorem eI_:∀ {m l:List Ct} {x:Ct},x∈sumC l m->(∃ d∈l,x.o=d.o)∨∃ d∈m,x.o=d.o
 |[],l,x,h=>.inl ⟨x,h,rfl⟩
 |c::r,l,x,h=>by
  rcases eI_ (m:=r) (l:=addC l c) h with⟨d,hd,h⟩ | ⟨d,hd,h⟩
  ·rcases kW_ hd with h' | ⟨y,hy,h'⟩
   ·exact .inr ⟨c,by simp,h.trans h'⟩
   ·exact .inl ⟨y,hy,h.trans h'⟩
  ·exact .inr ⟨d,by simp[hd],h⟩
theorem f8_ (h:StrV l):StrC (walkL l):=by
 intro c hc;rcases eI_ hc with⟨d,hd,_⟩ | ⟨d,hd,e⟩
 ·cases hd
 ·rw[e];unfold allCs at hd;obtain⟨v,hv,hd⟩:=ZL.1 hd;unfold volCs at hd;obtain⟨x,hx,hd⟩:=ZL.1 hd;unfold partCs at hd;obtain⟨p,_,rfl⟩:=ZT.1 hd;exact ((h v hv).2.2 x hx).1
theorem g7_ {l m:List Ct}(hl:StrC l)(hm:StrC m):StrC (sumC l m):=by
 intro c hc;rcases eI_ hc with⟨d,hd,e⟩ | ⟨d,hd,e⟩
 ·rw[e];exact hl d hd
 ·rw[e];exact hm d hd
theorem mV_ {l:List Ct}(h:StrC l):StrC (negC l):=by
 intro c hc;obtain⟨d,hd,rfl⟩:=ZT.1 hc;exact h d hd
theorem aQ_ (h:poolB p=true):spaceOkB p.size p.ex=true∧(1<=p.next∧p.next<=1000000000)∧TinyV p.vs∧refsOkB p.rf=true∧lateOkB p.lt=true:=by
 unfold poolB at h;simp only[Zf,ZU] at h;obtain⟨⟨⟨⟨⟨⟨h1,h2⟩,h3⟩,h4⟩,_⟩,h6⟩,_⟩:=h;simp only[volsB,Zf,ZU] at h4;refine⟨h1,⟨h2,h3⟩,g2_ h4.1 h4.2,?_⟩;unfold flushedO at h6;split at h6
 ·cases h6
 ·rename_i s hs;split at hs
  ·rename_i hh;exact hh
  ·cases hs
def WS (l:List Vo):Prop:=WideV l∧StrV l
def ItOk (x:It):Prop:=x.nm.size<=9223372036854775807∧x.ps.length<=1000∧NonN x.ps
def VoOk (v:Vo):Prop:=v.nm.size<=9223372036854775807∧v.its.length<=6∧∀ x∈v.its,ItOk x
theorem iY_ (h7:l.length<=7)(h:∀ v∈l,VoOk v):WS l:=
 ⟨⟨h7,fun v hv=>⟨(h v hv).2.1,fun x hx=>⟨((h v hv).2.2 x hx).2.1,((h v hv).2.2 x hx).2.2⟩⟩⟩,fun v hv=>⟨(h v hv).1,by have:=(h v hv).2.1;omega,fun x hx=>⟨((h v hv).2.2 x hx).1,by have:=((h v hv).2.2 x hx).2.1;omega⟩⟩⟩
theorem mW_ (h:TinyV l)(hs:StrV l):∀ v∈l,VoOk v∧v.its.length<=5:=fun v hv=>
 ⟨⟨(hs v hv).1,by have:=(h.2 v hv).1;omega,fun x hx=>⟨((hs v hv).2.2 x hx).1,by have:=((h.2 v hv).2 x hx).1;omega,((h.2 v hv).2 x hx).2⟩⟩,(h.2 v hv).1⟩
theorem oN_ (hp:poolB p=true):NonN (partsS p o).2.2:=by
 have hq:∀ {vol file:ByteArray},NonN ((partsO p.vs vol file).getD []):=fun {vol file}=>on_ (bH_ hp);unfold partsS;simp only;split
 ·split
  ·exact dD_
  ·rename_i l a hpl;refine fS_ hq (fun q ha=>?_);simp at ha;subst ha
   have:=gw_ hpl
   simp only;omega
 ·split
  ·split
   ·exact dD_
   ·rename_i src hs;split
    ·exact dD_
    ·exact fS_ hq (cg_ dD_ (gk_ (on_ (bb_ hp hs).1)))
  ·split
   ·exact dD_
   ·rename_i q hs;have hn:NonN q:=on_ (bb_ hp hs).1;split
    ·exact fS_ hn (fun q ha=>by simp at ha;subst ha;exact Int.le_refl _)
    ·split
     ·exact fS_ hn (fun q ha=>by simp at ha;subst ha;exact Int.le_refl _)
     ·exact cg_ dD_ (gk_ hn)
end
end Go.Proofs.YtbbhcnjhohidnaaGreatDoor
