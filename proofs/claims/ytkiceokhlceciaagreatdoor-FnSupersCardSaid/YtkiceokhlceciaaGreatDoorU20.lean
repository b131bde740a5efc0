/- Files that are not there, and copies that are refused, by the model. -/
import Derived.Test.YtkiceokhlceciaaGreatDoorU09
import Derived.Test.YtkiceokhlceciaaGreatDoorU19
set_option maxHeartbeats 20000000
set_option maxRecDepth 100000
namespace Go.Proofs.YtkiceokhlceciaaGreatDoor
section
open Go Go.RowKit Go.BigFrame Tryz
variable{size:Int}
theorem eH_ (B:Nat)(hB0:0<B)(v:Value)(p:Po)(o:Opr)(w:World)(h:Ag B w v p)(hNn:NnE v)(hBw:B<=w.heap.size)(hd:AJ p)(hp:Ap p=true)(hk:o.k=5)(i:Nat)(hso:Bb p.vs o.to=some i)(hfx:∀ x:Vo,p.vs[i]?=some x->x.fx=false)(hsr:AH p.vs o.vol o.file=none):
  Calls prog 66 #[v,.agg #[.int .i64 o.k,.string o.vol,.string o.file,.string o.to,.string o.into,.int .i64 o.at',.int .i64 o.fr,.int .i64 o.ln,.string o.data]] w fun e w'=>(∃ v' c,e=.returned (.tuple #[v',.int .i64 c])∧Bn v'∧c=(Ak p o).1∧(c=0->Ag B w' v' (Ak p o).2∧(Ai p o).2.2.length<=1000))∧Below B w w'∧FrV w w':=by
 have ho:=h.at';obtain⟨ea,en,ec,va,vn,vc,ra,rn,rc,la,ln,lc,rows,rfl,h1,⟨h2,h3⟩,h4,h5,h6⟩:=h;have hv:=hd;obtain⟨z1,z2,z3,z4,z5,z6,z7,z8⟩:=hd;have hV:Bp B w va vn p.vs:=h3.rows.vs h2;rw[hV.len] at z3;obtain⟨size,next,ex,vs,rf,lt⟩:=p;obtain⟨k,vol,file,tt,into,at0,fr,ln0,data⟩:=o;simp only at h1 h2 h3 h4 h5 hV z4 z3 ho hp hk ⊢;have _:=hB0;have _:=hNn;have _:=hBw;have _:=hp;have hD:vs.length=vn:=hV.len;have hF:rows.length=vn:=h2.sl.len;simp only at hso hfx hsr;subst hk;have hi:=ap_ hso;have hB:i<vn:=by omega
 have hx:vs[i]?=some vs[i]:=by simp[hi]
 have hI:(0:Int)<=(i:Int):=by omega
 have hC:(i:Int)<vn:=by omega
 have hr:rows[i]?=some (rows[i]'(by omega)):=by simp[hF,hB]
 have VT:=h3.at' i _ _ hr hx;generalize rows[i]'(by omega)=r0 at *;generalize vs[i]=x at *;obtain⟨rid,rnm,rfx,pa0,pn0,pc0⟩:=r0;obtain⟨e1,e2,e3,irows,RI,TI⟩:=VT;simp only at e1 e2 e3 RI;subst e1 e2 e3;obtain⟨vb,rfl,hO,hG,hH⟩:=h2.addr (by omega);have hf:=hfx _ hx;clear hfx;have hy:Ai ⟨size,next,ex,vs,rf,lt⟩ ⟨5,vol,file,tt,into,at0,fr,ln0,data⟩=(3,ex,[]):=by simp[Ai,hsr]
 have hS:Hid (Ak ⟨size,next,ex,vs,rf,lt⟩ ⟨5,vol,file,tt,into,at0,fr,ln0,data⟩=(3,⟨size,next,ex,vs,rf,lt⟩)):=by show _=_;simp[Ak,hso,hx,hf,hy]
 generalize ht:Ai ⟨size,next,ex,vs,rf,lt⟩ ⟨5,vol,file,tt,into,at0,fr,ln0,data⟩=PS at *;replace ht:Hid (Ai ⟨size,next,ex,vs,rf,lt⟩ ⟨5,vol,file,tt,into,at0,fr,ln0,data⟩=PS):=ht;generalize Ak ⟨size,next,ex,vs,rf,lt⟩ ⟨5,vol,file,tt,into,at0,fr,ln0,data⟩=R at *;have hz:Hid (x.fx=false):=hf;clear hf;go_enter func66,ntmps66
 go_wp2_with fail
 refine (ak_ B size next ea en ec (some ⟨vb,0,none⟩) vn vc ra rn rc la ln lc vs tt _ (hV.below (by go_grown)) z3).mono ?_;rintro e w1 ⟨rfl,hs⟩;obtain⟨C,O,D,he,hK⟩:=bx3 hs;clear hs;rw[hso];simp only[BJ];obtain⟨c0,c1,c2,c3,c4,c5⟩:=C.six';obtain⟨o0,o1,o2,o3,o4,o5,o6,o7,o8⟩:=ce9 O;obtain⟨x0,x1,x2,x3,x4,x5⟩:=D.six';obtain⟨f0,f1,f2,f3,f4,f5⟩:=fz6 D;have RA:=h2.below he;have e2:w1.cell? ⟨vb,i*4+2,none⟩=some (.bool x.fx):=RA.cellAt (j:=2) hr rfl;rw[hz.out] at e2
 go_wp2_with fail
 refine (aH_ B _ ⟨size,next,ex,vs,rf,lt⟩ tt into _ (ho.below he) hv).mono ?_;rintro e wA ⟨hb,hg⟩;obtain⟨qa,qn,qc,rfl,hQ⟩:=hb.uni;clear hb;have hJ:Ae ((AH vs tt into).getD [])=true:=bH_ (p:=⟨size,next,ex,vs,rf,lt⟩) hp;simp only at hQ ⊢;clear c0 c1 c2 c3 c4 c5 o0 o1 o2 o3 o4 o5 o6 o7 o8 x0 x1 x2 x3 x4 x5 f0 f1 f2 f3 f4 f5;have C':=C.below hg;have D':=D.below hg;have O':=O.below hg;have hj:=Aa he hg;have hL:=hg.size;clear C D O e2 RA;obtain⟨c0,c1,c2,c3,c4,c5⟩:=C'.six';obtain⟨o0,o1,o2,o3,o4,o5,o6,o7,o8⟩:=ce9 O';obtain⟨x0,x1,x2,x3,x4,x5⟩:=D'.six';obtain⟨f0,f1,f2,f3,f4,f5⟩:=fz6 D'
 go_wp2_with fail
 refine (aH_ B _ ⟨size,next,ex,vs,rf,lt⟩ vol file _ (ho.below hj) hv).mono ?_;rintro e wB ⟨hb,hh⟩;obtain⟨sa,sn,sc,rfl,hR⟩:=hb.uni;clear hb;simp only at hR ⊢;rw[hsr] at hR ⊢;simp only[Option.getD_none,Option.isSome_none] at hR ⊢;clear c0 c1 c2 c3 c4 c5 o0 o1 o2 o3 o4 o5 o6 o7 o8 x0 x1 x2 x3 x4 x5 f0 f1 f2 f3 f4 f5;have hq:=C'.below hh;have hm:=D'.below hh;have hc:=O'.below hh;have hn:=Aa hj hh;have hM:=hh.size;clear C' D' O';obtain⟨c0,c1,c2,c3,c4,c5⟩:=hq.six';obtain⟨o0,o1,o2,o3,o4,o5,o6,o7,o8⟩:=ce9 hc;obtain⟨x0,x1,x2,x3,x4,x5⟩:=hm.six';obtain⟨f0,f1,f2,f3,f4,f5⟩:=fz6 hm
 go_wp2_with fail
 have g6:=Ac o6;have g7:=Ac o7;have hE:=aA_ wB;refine ab_ (by kernel_rfl) (by kernel_rfl) ?_
 repeat (go_big_quiet_step (fail))
 refine wpQuiet_nil ?_;intro wC hw;have ha:=ah_ hw;clear hw g6 g7 hE;have C3:=hq.below ha;have D3:=hm.below ha;have hl:=Aa hn ha;have hN:=ha.size;clear c0 c1 c2 c3 c4 c5 o0 o1 o2 o3 o4 o5 o6 o7 o8 x0 x1 x2 x3 x4 x5 f0 f1 f2 f3 f4 f5;obtain⟨c0,c1,c2,c3,c4,c5⟩:=C3.six';have o0:wC.cell? ⟨w.heap.size+1,0,none⟩=some (.int .i64 5):=(hc.below ha).cell 0;have o1:wC.cell? ⟨w.heap.size+1,1,none⟩=some (.string vol):=(hc.below ha).cell 1;have o2:wC.cell? ⟨w.heap.size+1,2,none⟩=some (.string file):=(hc.below ha).cell 2;have o3:wC.cell? ⟨w.heap.size+1,3,none⟩=some (.string tt):=(hc.below ha).cell 3;have o4:wC.cell? ⟨w.heap.size+1,4,none⟩=some (.string into):=(hc.below ha).cell 4;have o5:wC.cell? ⟨w.heap.size+1,5,none⟩=some (.int .i64 at0):=(hc.below ha).cell 5;have o6:wC.cell? ⟨w.heap.size+1,6,none⟩=some (.int .i64 fr):=(hc.below ha).cell 6;have o7:wC.cell? ⟨w.heap.size+1,7,none⟩=some (.int .i64 ln0):=(hc.below ha).cell 7;have o8:wC.cell? ⟨w.heap.size+1,8,none⟩=some (.string data):=(hc.below ha).cell 8;obtain⟨x0,x1,x2,x3,x4,x5⟩:=D3.six';obtain⟨f0,f1,f2,f3,f4,f5⟩:=fz6 D3;go_wp2;obtain⟨W8,hu,W0,hA⟩:=Ba D3 (.int .i64 size) (.int .i64 next) (.slice ea en ec) (.slice (some ⟨vb,0,none⟩) vn vc) (.slice ra rn rc) (.slice la ln lc);have B8:=hl.grown hA hl.size (fun j e=>by cases e;omega);rw[<-hu];clear hu;refine YW (ad_ rfl _ W8 (w.heap.size+2) _ _ _ _ _ rfl W0 underlying28 rfl (by kernel_rfl) rfl) rfl ?_;exact⟨⟨_,3,rfl,bm_ _ _ _ _ _ _ _ _ _ _ _ _ _ _,by rw[hS.out],fun h=>absurd h (by omega)⟩,B8.mono hBw,FrV.of B8⟩
theorem fa_ (B:Nat)(hB0:0<B)(v:Value)(p:Po)(o:Opr)(w:World)(h:Ag B w v p)(hNn:NnE v)(hBw:B<=w.heap.size)(hd:AJ p)(hp:Ap p=true)(hk:o.k=5)(i:Nat)(hso:Bb p.vs o.to=some i)(hfx:∀ x:Vo,p.vs[i]?=some x->x.fx=false)(q2:List Pt)(hsr:AH p.vs o.vol o.file=some q2)(hfr:0<=o.fr∧o.fr<=100)(hl:1<=o.ln∧o.ln<=100)(hgt:Aj q2<o.fr+o.ln):
  Calls prog 66 #[v,.agg #[.int .i64 o.k,.string o.vol,.string o.file,.string o.to,.string o.into,.int .i64 o.at',.int .i64 o.fr,.int .i64 o.ln,.string o.data]] w fun e w'=>(∃ v' c,e=.returned (.tuple #[v',.int .i64 c])∧Bn v'∧c=(Ak p o).1∧(c=0->Ag B w' v' (Ak p o).2∧(Ai p o).2.2.length<=1000))∧Below B w w'∧FrV w w':=by
 have hs:=h.at';obtain⟨ea,en,ec,va,vn,vc,ra,rn,rc,la,ln,lc,rows,rfl,h1,⟨h2,h3⟩,h4,h5,h6⟩:=h;have hB:=hd;obtain⟨z1,z2,z3,z4,z5,z6,z7,z8⟩:=hd;have hV:Bp B w va vn p.vs:=h3.rows.vs h2;rw[hV.len] at z3;obtain⟨size,next,ex,vs,rf,lt⟩:=p;obtain⟨k,vol,file,tt,into,at0,fr,ln0,data⟩:=o;simp only at h1 h2 h3 h4 h5 hV z4 z3 hs hp hk ⊢;have _:=hB0;have _:=hNn;have _:=hBw;have _:=hp;have hI:vs.length=vn:=hV.len;have hK:rows.length=vn:=h2.sl.len;simp only at hso hfx hsr hfr hl hgt;subst hk;have hi:=ap_ hso;have hG:i<vn:=by omega
 have hx:vs[i]?=some vs[i]:=by simp[hi]
 have hN:(0:Int)<=(i:Int):=by omega
 have hH:(i:Int)<vn:=by omega
 have hr:rows[i]?=some (rows[i]'(by omega)):=by simp[hK,hG]
 have VT:=h3.at' i _ _ hr hx;generalize rows[i]'(by omega)=r0 at *;generalize vs[i]=x at *;obtain⟨rid,rnm,rfx,pa0,pn0,pc0⟩:=r0;obtain⟨e1,e2,e3,irows,RI,TI⟩:=VT;simp only at e1 e2 e3 RI;subst e1 e2 e3;obtain⟨vb,rfl,hY,hL,hM⟩:=h2.addr (by omega);have hf:=hfx _ hx;clear hfx;have hD:Ai ⟨size,next,ex,vs,rf,lt⟩ ⟨5,vol,file,tt,into,at0,fr,ln0,data⟩=(3,ex,[]):=by simp[Ai,hsr,hgt]
 have hS:Hid (Ak ⟨size,next,ex,vs,rf,lt⟩ ⟨5,vol,file,tt,into,at0,fr,ln0,data⟩=(3,⟨size,next,ex,vs,rf,lt⟩)):=by show _=_;simp[Ak,hso,hx,hf,hD]
 generalize hz:Ai ⟨size,next,ex,vs,rf,lt⟩ ⟨5,vol,file,tt,into,at0,fr,ln0,data⟩=PS at *;replace hz:Hid (Ai ⟨size,next,ex,vs,rf,lt⟩ ⟨5,vol,file,tt,into,at0,fr,ln0,data⟩=PS):=hz;generalize Ak ⟨size,next,ex,vs,rf,lt⟩ ⟨5,vol,file,tt,into,at0,fr,ln0,data⟩=R at *;have hE:Hid (x.fx=false):=hf;clear hf;go_enter func66,ntmps66
 go_wp2_with fail
 refine (ak_ B size next ea en ec (some ⟨vb,0,none⟩) vn vc ra rn rc la ln lc vs tt _ (hV.below (by go_grown)) z3).mono ?_;rintro e w1 ⟨rfl,hy⟩;obtain⟨C,O,D,hc,hT⟩:=bx3 hy;clear hy;rw[hso];simp only[BJ];obtain⟨c0,c1,c2,c3,c4,c5⟩:=C.six';obtain⟨o0,o1,o2,o3,o4,o5,o6,o7,o8⟩:=ce9 O;obtain⟨x0,x1,x2,x3,x4,x5⟩:=D.six';obtain⟨f0,f1,f2,f3,f4,f5⟩:=fz6 D;have RA:=h2.below hc;have e2:w1.cell? ⟨vb,i*4+2,none⟩=some (.bool x.fx):=RA.cellAt (j:=2) hr rfl;rw[hE.out] at e2
 go_wp2_with fail
 refine (aH_ B _ ⟨size,next,ex,vs,rf,lt⟩ tt into _ (hs.below hc) hB).mono ?_;rintro e wA ⟨ha,hg⟩;obtain⟨qa,qn,qc,rfl,hQ⟩:=ha.uni;clear ha;have hP:Ae ((AH vs tt into).getD [])=true:=bH_ (p:=⟨size,next,ex,vs,rf,lt⟩) hp;simp only at hQ ⊢;clear c0 c1 c2 c3 c4 c5 o0 o1 o2 o3 o4 o5 o6 o7 o8 x0 x1 x2 x3 x4 x5 f0 f1 f2 f3 f4 f5;have C':=C.below hg;have D':=D.below hg;have O':=O.below hg;have hm:=Aa hc hg;have hU:=hg.size;clear C D O e2 RA;obtain⟨c0,c1,c2,c3,c4,c5⟩:=C'.six';obtain⟨o0,o1,o2,o3,o4,o5,o6,o7,o8⟩:=ce9 O';obtain⟨x0,x1,x2,x3,x4,x5⟩:=D'.six';obtain⟨f0,f1,f2,f3,f4,f5⟩:=fz6 D'
 go_wp2_with fail
 refine (aH_ B _ ⟨size,next,ex,vs,rf,lt⟩ vol file _ (hs.below hm) hB).mono ?_;rintro e wB ⟨ha,hh⟩;obtain⟨sa,sn,sc,rfl,hR⟩:=ha.uni;clear ha;simp only at hR ⊢;rw[hsr] at hR ⊢;simp only[Yw,Option.isSome_some] at hR ⊢;clear c0 c1 c2 c3 c4 c5 o0 o1 o2 o3 o4 o5 o6 o7 o8 x0 x1 x2 x3 x4 x5 f0 f1 f2 f3 f4 f5;have hv:=C'.below hh;have ho:=D'.below hh;have hw:=O'.below hh;have hq:=Aa hm hh;have hW:=hh.size;clear C' D' O';obtain⟨c0,c1,c2,c3,c4,c5⟩:=hv.six';obtain⟨o0,o1,o2,o3,o4,o5,o6,o7,o8⟩:=ce9 hw;obtain⟨x0,x1,x2,x3,x4,x5⟩:=ho.six';obtain⟨f0,f1,f2,f3,f4,f5⟩:=fz6 ho;have he:Ae q2=true:=(bb_ (p:=⟨size,next,ex,vs,rf,lt⟩) hp hsr).1;have hO:sn<=16:=by rw[<-hR.len];exact (ae_ he).1
 have ht:∀ k,0<=Aj (q2.take k)∧Aj (q2.take k)<=100:=fun k=>by have h1:=a6_ (ae_ he).2.1 k;have h2:=(ae_ he).2.2;omega
 have hZ:IntKind.i64.wrap (fr+ln0)=fr+ln0:=by rw[Ys];omega
 have hb:=fun (u:World) (hu:Below wB.heap.size wB u)=>aZ_ sa sn sc q2 u (hR.below hu) (by omega) ht
 go_wp2_with fail
 have g6:=Ac o6;have g7:=Ac o7;have hJ:=aA_ wB;refine ab_ (by kernel_rfl) (by kernel_rfl) ?_
 repeat (go_big_quiet_step (first | (go_at_call 108;exact am_ (hb _ (Grw.h _)))))
 refine wpQuiet_nil ?_;intro wC hC;have hj:=ah_ hC;clear hC g6 g7 hJ hb;have C3:=hv.below hj;have D3:=ho.below hj;have O3:=hw.below hj;have hn:=Aa hq hj;have hX:=hj.size;clear c0 c1 c2 c3 c4 c5 o0 o1 o2 o3 o4 o5 o6 o7 o8 x0 x1 x2 x3 x4 x5 f0 f1 f2 f3 f4 f5;obtain⟨c0,c1,c2,c3,c4,c5⟩:=C3.six';obtain⟨o0,o1,o2,o3,o4,o5,o6,o7,o8⟩:=ce9 O3;obtain⟨x0,x1,x2,x3,x4,x5⟩:=D3.six';obtain⟨f0,f1,f2,f3,f4,f5⟩:=fz6 D3;go_wp2;obtain⟨W8,hA,W0,hF⟩:=Ba D3 (.int .i64 size) (.int .i64 next) (.slice ea en ec) (.slice (some ⟨vb,0,none⟩) vn vc) (.slice ra rn rc) (.slice la ln lc);have B8:=hn.grown hF hn.size (fun j e=>by cases e;omega);rw[<-hA];clear hA;refine YW (ad_ rfl _ W8 (w.heap.size+2) _ _ _ _ _ rfl W0 underlying28 rfl (by kernel_rfl) rfl) rfl ?_;exact⟨⟨_,3,rfl,bm_ _ _ _ _ _ _ _ _ _ _ _ _ _ _,by rw[hS.out],fun h=>absurd h (by omega)⟩,B8.mono hBw,FrV.of B8⟩
theorem gv_ (B:Nat)(hB0:0<B)(v:Value)(p:Po)(o:Opr)(w:World)(h:Ag B w v p)(hNn:NnE v)(hBw:B<=w.heap.size)(hd:AJ p)(hp:Ap p=true)(hk:o.k=5)(i:Nat)(hso:Bb p.vs o.to=some i)(hfx:∀ x:Vo,p.vs[i]?=some x->x.fx=false)(q2:List Pt)(hsr:AH p.vs o.vol o.file=some q2)(hfr:0<=o.fr∧o.fr<=100)(hl:1<=o.ln∧o.ln<=100)(ha:0<=o.at'∧o.at'<=100)(hgt:¬ Aj q2<o.fr+o.ln)(hok2:Ae (At [] (slp o.fr (o.fr+o.ln) 0 q2))=true):
  Calls prog 66 #[v,.agg #[.int .i64 o.k,.string o.vol,.string o.file,.string o.to,.string o.into,.int .i64 o.at',.int .i64 o.fr,.int .i64 o.ln,.string o.data]] w fun e w'=>(∃ v' c,e=.returned (.tuple #[v',.int .i64 c])∧Bn v'∧c=(Ak p o).1∧(c=0->Ag B w' v' (Ak p o).2∧(Ai p o).2.2.length<=1000))∧Below B w w'∧FrV w w':=by
 have hI:=h.at';obtain⟨ea,en,ec,va,vn,vc,ra,rn,rc,la,ln,lc,rows,rfl,h1,⟨h2,h3⟩,h4,h5,h6⟩:=h;have hW:=hd;obtain⟨z1,z2,z3,z4,z5,z6,z7,z8⟩:=hd;have hV:Bp B w va vn p.vs:=h3.rows.vs h2;rw[hV.len] at z3;obtain⟨size,next,ex,vs,rf,lt⟩:=p;obtain⟨k,vol,file,tt,into,at0,fr,ln0,data⟩:=o;simp only at h1 h2 h3 h4 h5 hV z4 z3 hI hp hk ⊢;have _:=hB0;have _:=hNn;have _:=hBw;have _:=hp;have qe:vs.length=vn:=hV.len;have qh:rows.length=vn:=h2.sl.len;simp only at hso hfx hsr hfr hl ha hgt hok2;subst hk;have hi:=ap_ hso;have h9:i<vn:=by omega
 have hx:vs[i]?=some vs[i]:=by simp[hi]
 have qm:(0:Int)<=(i:Int):=by omega
 have qb:(i:Int)<vn:=by omega
 have hr:rows[i]?=some (rows[i]'(by omega)):=by simp[qh,h9]
 have VT:=h3.at' i _ _ hr hx;generalize rows[i]'(by omega)=r0 at *;generalize vs[i]=x at *;obtain⟨rid,rnm,rfx,pa0,pn0,pc0⟩:=r0;obtain⟨e1,e2,e3,irows,RI,TI⟩:=VT;simp only at e1 e2 e3 RI;subst e1 e2 e3;obtain⟨vb,rfl,qi,qj,qk⟩:=h2.addr (by omega);have hf:=hfx _ hx;clear hfx;have h0:Ai ⟨size,next,ex,vs,rf,lt⟩ ⟨5,vol,file,tt,into,at0,fr,ln0,data⟩=(0,ex,Bd ((AH vs tt into).getD []) at0 (At [] (slp fr (fr+ln0) 0 q2))):=by simp[Ai,hsr,hgt]
 have hS:Hid (Ak ⟨size,next,ex,vs,rf,lt⟩ ⟨5,vol,file,tt,into,at0,fr,ln0,data⟩=(0,⟨size,next,ex,vs.set i ⟨x.id,x.nm,x.fx,CV ⟨into,Bd ((AH vs tt into).getD []) at0 (At [] (slp fr (fr+ln0) 0 q2))⟩ x.its⟩,rf,lt⟩)):=by show _=_;simp[Ak,hso,hx,hf,h0]
 generalize hP:Ai ⟨size,next,ex,vs,rf,lt⟩ ⟨5,vol,file,tt,into,at0,fr,ln0,data⟩=PS at *;replace hP:Hid (Ai ⟨size,next,ex,vs,rf,lt⟩ ⟨5,vol,file,tt,into,at0,fr,ln0,data⟩=PS):=hP;generalize Ak ⟨size,next,ex,vs,rf,lt⟩ ⟨5,vol,file,tt,into,at0,fr,ln0,data⟩=R at *;have h8:Hid (x.fx=false):=hf;clear hf;go_enter func66,ntmps66
 go_wp2_with fail
 refine (ak_ B size next ea en ec (some ⟨vb,0,none⟩) vn vc ra rn rc la ln lc vs tt _ (hV.below (by go_grown)) z3).mono ?_;rintro e w1 ⟨rfl,hO⟩;obtain⟨C,O,D,ht,qp⟩:=bx3 hO;clear hO;rw[hso];simp only[BJ];obtain⟨c0,c1,c2,c3,c4,c5⟩:=C.six';obtain⟨o0,o1,o2,o3,o4,o5,o6,o7,o8⟩:=ce9 O;obtain⟨x0,x1,x2,x3,x4,x5⟩:=D.six';obtain⟨f0,f1,f2,f3,f4,f5⟩:=fz6 D;have RA:=h2.below ht;have e2:w1.cell? ⟨vb,i*4+2,none⟩=some (.bool x.fx):=RA.cellAt (j:=2) hr rfl;rw[h8.out] at e2
 go_wp2_with fail
 refine (aH_ B _ ⟨size,next,ex,vs,rf,lt⟩ tt into _ (hI.below ht) hW).mono ?_;rintro e wA ⟨hj,hw⟩;obtain⟨qa,qn,qc,rfl,hQ⟩:=hj.uni;clear hj;have qg:Ae ((AH vs tt into).getD [])=true:=bH_ (p:=⟨size,next,ex,vs,rf,lt⟩) hp;simp only at hQ ⊢;clear c0 c1 c2 c3 c4 c5 o0 o1 o2 o3 o4 o5 o6 o7 o8 x0 x1 x2 x3 x4 x5 f0 f1 f2 f3 f4 f5;have C':=C.below hw;have D':=D.below hw;have O':=O.below hw;have hy:=Aa ht hw;have qs:=hw.size;clear C D O e2 RA;obtain⟨c0,c1,c2,c3,c4,c5⟩:=C'.six';obtain⟨o0,o1,o2,o3,o4,o5,o6,o7,o8⟩:=ce9 O';obtain⟨x0,x1,x2,x3,x4,x5⟩:=D'.six';obtain⟨f0,f1,f2,f3,f4,f5⟩:=fz6 D';generalize (AH vs tt into).getD []=Q at *
 go_wp2_with fail
 refine (aH_ B _ ⟨size,next,ex,vs,rf,lt⟩ vol file _ (hI.below hy) hW).mono ?_;rintro e wB ⟨hj,hv⟩;obtain⟨sa,sn,sc,rfl,hR⟩:=hj.uni;clear hj;simp only at hR ⊢;rw[hsr] at hR ⊢;simp only[Yw,Option.isSome_some] at hR ⊢;clear c0 c1 c2 c3 c4 c5 o0 o1 o2 o3 o4 o5 o6 o7 o8 x0 x1 x2 x3 x4 x5 f0 f1 f2 f3 f4 f5;have hM:=C'.below hv;have hC:=D'.below hv;have hN:=O'.below hv;have hG:=Aa hy hv;have qt:=hv.size;clear C' D' O';obtain⟨c0,c1,c2,c3,c4,c5⟩:=hM.six';obtain⟨o0,o1,o2,o3,o4,o5,o6,o7,o8⟩:=ce9 hN;obtain⟨x0,x1,x2,x3,x4,x5⟩:=hC.six';obtain⟨f0,f1,f2,f3,f4,f5⟩:=fz6 hC;have hn:Ae q2=true:=(bb_ (p:=⟨size,next,ex,vs,rf,lt⟩) hp hsr).1;have qf:sn<=16:=by rw[<-hR.len];exact (ae_ hn).1
 have hL:∀ k,0<=Aj (q2.take k)∧Aj (q2.take k)<=100:=fun k=>by have h1:=a6_ (ae_ hn).2.1 k;have h2:=(ae_ hn).2.2;omega
 have qx:IntKind.i64.wrap (fr+ln0)=fr+ln0:=by rw[Ys];omega
 have hq:=fun (u:World) (hu:Below wB.heap.size wB u)=>aZ_ sa sn sc q2 u (hR.below hu) (by omega) hL
 go_wp2_with fail
 have g6:=Ac o6;have g7:=Ac o7;have hz:=aA_ wB;refine ab_ (by kernel_rfl) (by kernel_rfl) ?_
 repeat (go_big_quiet_step (first | (go_at_call 108;exact am_ (hq _ (Grw.h _)))))
 refine wpQuiet_nil ?_;intro wC hX;have hs:=ah_ hX;clear hX g6 g7 hz hq;have C3:=hM.below hs;have D3:=hC.below hs;have O3:=hN.below hs;have hH:=Aa hG hs;have qu:=hs.size;clear c0 c1 c2 c3 c4 c5 o0 o1 o2 o3 o4 o5 o6 o7 o8 x0 x1 x2 x3 x4 x5 f0 f1 f2 f3 f4 f5;have o5:wC.cell? ⟨w.heap.size+1,5,none⟩=some (.int .i64 at0):=O3.cell 5;have o6:wC.cell? ⟨w.heap.size+1,6,none⟩=some (.int .i64 fr):=O3.cell 6;have o7:wC.cell? ⟨w.heap.size+1,7,none⟩=some (.int .i64 ln0):=O3.cell 7
 go_wp2_with fail
 have ho:∀ u,Below wC.heap.size wC u->(fun u=>u.cell? ⟨w.heap.size+1,5,none⟩=some (.int .i64 at0)∧u.cell? ⟨w.heap.size+1,6,none⟩=some (.int .i64 fr)∧u.cell? ⟨w.heap.size+1,7,none⟩=some (.int .i64 ln0)) u:=fun u hu=>⟨Ab hu o5,Ab hu o6,Ab hu o7⟩;have hT:=ho wC.drew ((Yg _ _).drew);refine ar_ (S:=(fun u=>u.cell? ⟨w.heap.size+1,5,none⟩=some (.int .i64 at0)∧u.cell? ⟨w.heap.size+1,6,none⟩=some (.int .i64 fr)∧u.cell? ⟨w.heap.size+1,7,none⟩=some (.int .i64 ln0))) 13 (by kernel_rfl) (by kernel_rfl) ?_;refine tk 0 ?_;refine tk 1 ?_;refine tk 2 ?_;refine tk 3 ?_;refine tk 4 ?_;refine tk 5 ?_;refine tk 6 ?_;refine tk 7 ?_;refine tk 8 ?_;refine tk 9 ?_;refine tk 10 ?_;refine Aq (i:=11) (by kernel_rfl) rfl (fun K hK=>?_);go_simp;refine (ba_ sa sn sc q2 fr (fr+ln0) _ ((hR.below hs).below ((Yg _ _).drew)) qf (hq_ hn) hfr.1 (by omega) (by omega) (by omega)).mono ?_;rintro e wD ⟨⟨da,dn,dc,rfl,ql,RD⟩,hF⟩;have hA:Below wC.heap.size wC wD:=Aa ((Yg _ _).drew) hF;have qv:=hA.size;dsimp only;refine hK.out _ _ (ho _ hA) (fun hHeld=>?_);clear hK K
 try simp only[Act.put,lsA,lsB,lsC]
 refine Aq (i:=12) (by kernel_rfl) rfl (fun K hK=>?_);go_simp;refine (cM_ qa qn qc Q at0 da dn dc (At [] (slp fr (fr+ln0) 0 q2)) _ (((hQ.below hv).below hs).below hA) RD.sl qg hok2 ha.1 ha.2).mono ?_;rintro e wL ⟨⟨pa1,pn1,pc1,rfl,qo,Rp⟩,hZ⟩;have hB:Below wC.heap.size wC wL:=Aa hA hZ;dsimp only;refine hK.out _ _ (ho _ hB) (fun hHeld=>?_);clear hK K
 try simp only[Act.put,lsA,lsB,lsC]
 refine wpAnyH_done (by kernel_rfl) ?_ _;refine lastL rfl ?_;have CL:=C3.below hB;have DL:=D3.below hB;have hc:=Aa hH hB;have h7:B<=wD.heap.size:=by omega
 clear o5 o6 o7 ho hT hHeld;have RL:=h2.below hc;have e0:wL.cell? ⟨vb,i*4,none⟩=some (.int .i64 x.id):=RL.cellAt (j:=0) hr rfl;have e1:wL.cell? ⟨vb,i*4+1,none⟩=some (.string x.nm):=RL.cellAt (j:=1) hr rfl;have e2:wL.cell? ⟨vb,i*4+2,none⟩=some (.bool x.fx):=RL.cellAt (j:=2) hr rfl;have e3:wL.cell? ⟨vb,i*4+3,none⟩=some (.slice pa0 pn0 pc0):=RL.cellAt (j:=3) hr rfl;have k3:wL.cell? ⟨w.heap.size,3,none⟩=some (.slice (some ⟨vb,0,none⟩) vn vc):=CL.cell 3;have qw:=hc.size;have qd:pn0<=4194304:=by have:=(z4 x (Zc hx)).2.1;rw[(TI.rows.its RI).len] at this;exact this
 go_wp2_with fail
 have ho:∀ u,Below wL.heap.size wL u->(fun u=>u.cell? ⟨w.heap.size,3,none⟩=some (.slice (some ⟨vb,0,none⟩) vn vc)∧u.cell? ⟨vb,i*4,none⟩=some (.int .i64 x.id)∧u.cell? ⟨vb,i*4+1,none⟩=some (.string x.nm)∧u.cell? ⟨vb,i*4+2,none⟩=some (.bool x.fx)∧u.cell? ⟨vb,i*4+3,none⟩=some (.slice pa0 pn0 pc0)) u:=fun u hu=>⟨Ab hu k3,Ab hu e0,Ab hu e1,Ab hu e2,Ab hu e3⟩;have hT:=ho wL.drew ((Yg _ _).drew);refine ar_ (S:=(fun u=>u.cell? ⟨w.heap.size,3,none⟩=some (.slice (some ⟨vb,0,none⟩) vn vc)∧u.cell? ⟨vb,i*4,none⟩=some (.int .i64 x.id)∧u.cell? ⟨vb,i*4+1,none⟩=some (.string x.nm)∧u.cell? ⟨vb,i*4+2,none⟩=some (.bool x.fx)∧u.cell? ⟨vb,i*4+3,none⟩=some (.slice pa0 pn0 pc0))) 12 (by kernel_rfl) (by kernel_rfl) ?_;refine tk 0 ?_;refine tk 1 ?_;refine tk 2 ?_;refine tk 3 ?_;refine tk 4 ?_;refine tk 5 ?_;refine tk 6 ?_;refine tk 7 ?_;refine tk 8 ?_;refine tk 9 ?_;refine Aq (i:=10) (by kernel_rfl) rfl (fun K hK=>?_);go_simp;refine (cB_ B x.id x.nm x.fx x.its pa0 pn0 pc0 irows into pa1 pn1 pc1 (Bd Q at0 (At [] (slp fr (fr+ln0) 0 q2))) _ ((RI.below hc).below ((Yg _ _).drew)) ((TI.below hc).below ((Yg _ _).drew)) ((Rp.mono h7).below ((Yg _ _).drew)) qd).mono ?_;rintro e w5 ⟨⟨a2,n2,cap2,nrows,rfl,RN,TN⟩,hE⟩;have hg:Below wL.heap.size wL w5:=Aa ((Yg _ _).drew) hE;have qr:=hg.size;dsimp only;refine hK.out _ _ (ho _ hg) (fun hHeld=>?_);clear hK K
 try simp only[Act.put,lsA,lsB,lsC]
 refine tk 11 ?_;refine wpAnyH_done (by kernel_rfl) ?_ _;refine lastL rfl ?_;have hh:=Aa hc hg;have hD:=RL.below hg;obtain⟨vcs,VB⟩:=hD.blkAt;have z0:=VB.frozen (i*4);have z1':=VB.frozen (i*4+1);have z2':=VB.frozen (i*4+2);have z3':=VB.frozen (i*4+3);have v0:=Ab hg e0;have v1:=Ab hg e1;have v2:=Ab hg e2;have v3:=Ab hg e3;have he:=Gj w5 vb (i*4) (.int .i64 x.id) (.string x.nm) (.bool x.fx) (.slice a2 n2 cap2);have hm:BF w5 (some vb) 80:=aa_ VB;have R1:=hD.set4V hr ⟨x.id,x.nm,x.fx,a2,n2,cap2⟩;simp only at R1;have T1:=((h3.below hh).ty he hm (by decide) (by decide)).set i (show CE B _ ⟨x.id,x.nm,x.fx,a2,n2,cap2⟩ ⟨x.id,x.nm,x.fx,CV ⟨into,(Bd Q at0 (At [] (slp fr (fr+ln0) 0 q2)))⟩ x.its⟩ from ⟨rfl,rfl,rfl,nrows,(RN.ty he hm (by decide)).mono (by simp only[World.size_drew] at *;omega),TN.ty he hm (by decide)⟩);have C2:=(CL.below hg).ty he hm (by decide);have D2:=(DL.below hg).ty he hm (by decide);have P2:Ag B ((((w5.setCell ⟨vb,i*4,none⟩ (.int .i64 x.id)).setCell ⟨vb,i*4+1,none⟩ (.string x.nm)).setCell ⟨vb,i*4+2,none⟩ (.bool x.fx)).setCell ⟨vb,i*4+3,none⟩ (.slice a2 n2 cap2)) (.agg #[.int .i64 size,.int .i64 next,.slice ea en ec,.slice (some ⟨vb,0,none⟩) vn vc,.slice ra rn rc,.slice la ln lc]) ⟨size,next,ex,vs.set i ⟨x.id,x.nm,x.fx,CV ⟨into,Bd Q at0 (At [] (slp fr (fr+ln0) 0 q2))⟩ x.its⟩,rf,lt⟩:=⟨ea,en,ec,some ⟨vb,0,none⟩,vn,vc,ra,rn,rc,la,ln,lc,_,rfl,((h1.below hc).below hg).ty he hm (by decide),⟨R1,T1⟩,(h4.below hh).ty he hm (by decide),(h5.below hh).ty he hm (by decide),h6⟩;obtain⟨y0,y1,y2,y3,y4,y5⟩:=C2.six';obtain⟨q0,q1,q2,q3,q4,q5⟩:=D2.six';obtain⟨m0,m1,m2,m3,m4,m5⟩:=fz6 D2;have hY:=(hh.mono hBw).grown he (by omega) (fun j e=>by cases e;exact qi);have qq:=he.size;have FT0:Hid (FrV w ((((w5.setCell ⟨vb,i*4,none⟩ (.int .i64 x.id)).setCell ⟨vb,i*4+1,none⟩ (.string x.nm)).setCell ⟨vb,i*4+2,none⟩ (.bool x.fx)).setCell ⟨vb,i*4+3,none⟩ (.slice a2 n2 cap2))):=fun k c t hb hz=>(hb.below hh).ty he hm hz;clear R1 T1 he hD VB hm ho;go_wp2;obtain⟨W8,hU,W0,hJ⟩:=Ba D2 (.int .i64 size) (.int .i64 next) (.slice ea en ec) (.slice (some ⟨vb,0,none⟩) vn vc) (.slice ra rn rc) (.slice la ln lc);have PF:=P2.tyP hJ (aa_ D2);have B8:=hY.grown hJ (by omega) (fun j e=>by cases e;omega);have FT:=fun (k:Nat) (c:Array Value) (t:TypeId) (hb:Blk w k c t) (hz:t≠80)=>(FT0.out k c t hb hz).offB hJ (B:=w.heap.size) (fun j e=>by cases e;omega) hb.lt;rw[<-hU];clear hU;refine YW (ad_ rfl _ W8 (w.heap.size+2) _ _ _ _ _ rfl W0 underlying28 rfl (by kernel_rfl) rfl) rfl ?_;exact⟨⟨_,0,rfl,bm_ _ _ _ _ _ _ _ _ _ _ _ _ _ _,by rw[hS.out],fun _=>⟨by rw[hS.out];exact PF,by exact Zl (Zm Rp.sl.len) (by omega)⟩⟩,B8,FT⟩
theorem oM_:∀ {L:List Ex} {next:Int},xgo size next L=true->1<=next->∀ x∈ggo size next L,1<=x.1∧x.1<=size
 |[],next,_,h1,x,hx=>by
  unfold ggo at hx;split at hx
  ·simp at hx;subst hx;exact⟨h1,by assumption⟩
  ·cases hx
 |e::r,next,h,h1,x,hx=>by
  simp only[xgo,Zf,ZU] at h;have ha:=bl_ h.1.1.1;unfold ggo at hx;rcases Zs.1 hx with hx | hx
  ·split at hx
   ·simp at hx;subst hx;simp only;omega
   ·cases hx
  ·exact oM_ h.2 (by omega) x hx
theorem gw_ {a:Int}{l L:List Ex}{d:ByteArray}(h:CC size l d=some (L,a)):1<=a∧a<=400:=by
 unfold CC at h;split at h
 ·rename_i hc;obtain⟨s1,s2,_,hx⟩:=cu_ hc.1
  cases hf:(ggo size 1 l).find? (fun x=>decide ((d.size:Int)<=x.2)) with
  |none=>rw[hf] at h;simp at h
  |some y=>
   rw[hf] at h;simp at h
   have:=oM_ hx (by omega) y (List.mem_of_find?_eq_some hf)
   omega
 ·cases h
theorem mU_ {fr to:Int}:∀ {l:List Pt} {st:Int},(slp fr to st l).length<=l.length
 |[],_=>Zd _
 |p::r,st=>by
  have:=mU_ (fr:=fr) (to:=to) (l:=r) (st:=st+p.n)
  unfold slp;split
  ·simp only[Zw];omega
  ·simp only[Zw];omega
theorem h1_:∀ {m l:List Pt},(At l m).length<=l.length+m.length
 |[],l=>Zd _
 |p::r,l=>by
  have h1:=h1_ (m:=r) (l:=BE l p);have h2:=fL_ l p;show (At (BE l p) r).length<=_;simp only[Zw];omega
theorem nG_ {q:List Pt}(h:Ae q=true)(fr to:Int):Ae (At [] (slp fr to 0 q))=true:=by
 have ha:=(ae_ h).1;have hl:=mU_ (fr:=fr) (to:=to) (l:=q) (st:=0)
 have hm:Ae (slp fr to 0 q)=true:=by
  unfold Ae;rw[b8_ h fr to];simp;omega
 rw[iw_ (l:=[]) rfl hm];have hs:=(ae_ hm).2.2;have hj:=h1_ (m:=slp fr to 0 q) (l:=[]);simp only[YK] at hj;simp[Aj];omega
theorem gN_ (B:Nat)(hB0:0<B)(v:Value)(p:Po)(o:Opr)(w:World)(h:Ag B w v p)(hNn:NnE v)(hBw:B<=w.heap.size)(hd:AJ p)(hp:Ap p=true)(hop:opB o=true)(hk:o.k=2∨o.k=3∨o.k=5∨o.k=10):
  Calls prog 66 #[v,.agg #[.int .i64 o.k,.string o.vol,.string o.file,.string o.to,.string o.into,.int .i64 o.at',.int .i64 o.fr,.int .i64 o.ln,.string o.data]] w fun e w'=>(∃ v' c,e=.returned (.tuple #[v',.int .i64 c])∧Bn v'∧c=(Ak p o).1∧(c=0->Ag B w' v' (Ak p o).2∧(Ai p o).2.2.length<=1000))∧Below B w w'∧FrV w w':=by
 by_cases h5:o.k=5
 ·have hb:=hop;simp[opB,h5,inB] at hb
  cases ha:Bb p.vs o.to with
  |none=>exact f3_ B hB0 v p o w h hNn hBw hd hp h5 ha
  |some i=>
   have hx:p.vs[i]?=some (p.vs[i]'(ap_ ha)):=by simp[ap_ ha]
   cases hf:(p.vs[i]'(ap_ ha)).fx with
   |true=>exact fC_ B hB0 v p o w h hNn hBw hd hp h5 i ha (fun x e=>by rw[hx] at e;cases e;exact hf)
   |false=>
    have hc:∀ x:Vo,p.vs[i]?=some x->x.fx=false:=fun x e=>by rw[hx] at e;cases e;exact hf
    cases hs:AH p.vs o.vol o.file with
    |none=>exact eH_ B hB0 v p o w h hNn hBw hd hp h5 i ha hc hs
    |some q=>
     by_cases hg:Aj q<o.fr+o.ln
     ·exact fa_ B hB0 v p o w h hNn hBw hd hp h5 i ha hc q hs (by omega) (by omega) hg
     ·exact gv_ B hB0 v p o w h hNn hBw hd hp h5 i ha hc q hs (by omega) (by omega) (by omega) hg (nG_ (bb_ hp hs).1 _ _)
 ·cases ha:Bb p.vs o.vol with
  |none=>exact gt_ B hB0 v p o w h hNn hBw hd hp h5 ha
  |some i=>
   have hx:p.vs[i]?=some (p.vs[i]'(ap_ ha)):=by simp[ap_ ha]
   cases hf:(p.vs[i]'(ap_ ha)).fx with
   |true=>exact f2_ B hB0 v p o w h hNn hBw hd hp h5 i ha (fun x e=>by rw[hx] at e;cases e;exact hf)
   |false=>
    have hc:∀ x:Vo,p.vs[i]?=some x->x.fx=false:=fun x e=>by rw[hx] at e;cases e;exact hf
    rcases hk with h1 | h1 | h1 | h1
    ·have hb:=hop;simp[opB,h1,inB] at hb
     cases he:CC p.size p.ex o.data with
     |none=>exact gu_ B hB0 v p o w h hNn hBw hd hp h1 i ha hc (by simp[hb]) he
     |some La=>
      obtain⟨L,a⟩:=La;exact f7_ B hB0 v p o w h hNn hBw hd hp h1 i ha hc (by simp[hb]) (by omega) L a (gw_ he) he
    ·have hb:=hop;simp[opB,h1,inB] at hb
     cases hs:AH p.vs o.vol o.file with
     |none=>exact e9_ B hB0 v p o w h hNn hBw hd hp h1 i ha hc hs
     |some q=>
      by_cases hg:Aj q<o.ln
      ·exact e7_ B hB0 v p o w h hNn hBw hd hp h1 i ha hc q hs (by omega) hg
      ·exact e8_ B hB0 v p o w h hNn hBw hd hp h1 i ha hc q hs (by omega) hg
    ·exact absurd h1 h5
    ·have hb:=hop;simp[opB,h1,inB] at hb
     cases hs:AH p.vs o.vol o.file with
     |none=>exact ei_ B hB0 v p o w h hNn hBw hd hp h1 i ha hc hs
     |some q=>exact f6_ B hB0 v p o w h hNn hBw hd hp h1 i ha hc q hs (by omega) (by omega)
end
section
open Go Go.RowKit
variable{l:List Vo}{o:Opr}{p:Po}
theorem kW_ {c:Ct}:∀ {l:List Ct} {x:Ct},x∈BD l c->x.o=c.o∨∃ d∈l,x.o=d.o
 |[],x,h=>by simp[BD] at h;subst h;exact .inl rfl
 |y::r,x,h=>by
  unfold BD at h;split at h
  ·rcases Zn.1 h with rfl | h
   ·exact .inr ⟨x,by simp,rfl⟩
   ·rcases kW_ h with h | ⟨d,hd,h⟩
    ·exact .inl h
    ·exact .inr ⟨d,by simp[hd],h⟩
  ·split at h
   ·split at h
    ·rcases Zn.1 h with rfl | h
     ·exact .inl rfl
     ·exact .inr ⟨x,by simp[h],rfl⟩
    ·exact .inr ⟨x,by simp[h],rfl⟩
   ·rcases Zn.1 h with rfl | h
    ·exact .inl rfl
    ·exact .inr ⟨x,h,rfl⟩
theorem eI_:∀ {m l:List Ct} {x:Ct},x∈A7 l m->(∃ d∈l,x.o=d.o)∨∃ d∈m,x.o=d.o
 |[],l,x,h=>.inl ⟨x,h,rfl⟩
 |c::r,l,x,h=>by
  rcases eI_ (m:=r) (l:=BD l c) h with⟨d,hd,h⟩ | ⟨d,hd,h⟩
  ·rcases kW_ hd with h' | ⟨y,hy,h'⟩
   ·exact .inr ⟨c,by simp,h.trans h'⟩
   ·exact .inl ⟨y,hy,h.trans h'⟩
  ·exact .inr ⟨d,by simp[hd],h⟩
theorem f8_ (h:JR l):Co (A9 l):=by
 intro c hc;rcases eI_ hc with⟨d,hd,_⟩ | ⟨d,hd,e⟩
 ·cases hd
 ·rw[e];unfold BP at hd;obtain⟨v,hv,hd⟩:=ZL.1 hd;unfold G9 at hd;obtain⟨x,hx,hd⟩:=ZL.1 hd;unfold AU at hd;obtain⟨p,_,rfl⟩:=ZT.1 hd;exact ((h v hv).2.2 x hx).1
theorem g7_ {l m:List Ct}(hl:Co l)(hm:Co m):Co (A7 l m):=by
 intro c hc;rcases eI_ hc with⟨d,hd,e⟩ | ⟨d,hd,e⟩
 ·rw[e];exact hl d hd
 ·rw[e];exact hm d hd
theorem mV_ {l:List Ct}(h:Co l):Co (FS l):=by
 intro c hc;obtain⟨d,hd,rfl⟩:=ZT.1 hc;exact h d hd
theorem aQ_ (h:Ap p=true):Am p.size p.ex=true∧(1<=p.next∧p.next<=1000000000)∧Gc p.vs∧AI p.rf=true∧AR p.lt=true:=by
 unfold Ap at h;simp only[Zf,ZU] at h;obtain⟨⟨⟨⟨⟨⟨h1,h2⟩,h3⟩,h4⟩,_⟩,h6⟩,_⟩:=h;simp only[EM,Zf,ZU] at h4;refine⟨h1,⟨h2,h3⟩,g2_ h4.1 h4.2,?_⟩;unfold AB at h6;split at h6
 ·cases h6
 ·rename_i s hs;split at hs
  ·rename_i hh;exact hh
  ·cases hs
def WS (l:List Vo):Prop:=Kq l∧JR l
def Nc (x:It):Prop:=x.nm.size<=9223372036854775807∧x.ps.length<=1000∧EH x.ps
def Lp (v:Vo):Prop:=v.nm.size<=9223372036854775807∧v.its.length<=6∧∀ x∈v.its,Nc x
theorem iY_ (h7:l.length<=7)(h:∀ v∈l,Lp v):WS l:=
 ⟨⟨h7,fun v hv=>⟨(h v hv).2.1,fun x hx=>⟨((h v hv).2.2 x hx).2.1,((h v hv).2.2 x hx).2.2⟩⟩⟩,fun v hv=>⟨(h v hv).1,by have:=(h v hv).2.1;omega,fun x hx=>⟨((h v hv).2.2 x hx).1,by have:=((h v hv).2.2 x hx).2.1;omega⟩⟩⟩
theorem mW_ (h:Gc l)(hs:JR l):∀ v∈l,Lp v∧v.its.length<=5:=fun v hv=>
 ⟨⟨(hs v hv).1,by have:=(h.2 v hv).1;omega,fun x hx=>⟨((hs v hv).2.2 x hx).1,by have:=((h.2 v hv).2 x hx).1;omega,((h.2 v hv).2 x hx).2⟩⟩,(h.2 v hv).1⟩
theorem oN_ (hp:Ap p=true):EH (Ai p o).2.2:=by
 have hq:∀ {vol file:ByteArray},EH ((AH p.vs vol file).getD []):=fun {vol file}=>on_ (bH_ hp);unfold Ai;simp only;split
 ·split
  ·exact dD_
  ·rename_i l a hpl;refine fS_ hq (fun q ha=>?_);simp at ha;subst ha
   have:=gw_ hpl
   simp only;omega
 ·split
  ·split
   ·exact dD_
   ·rename_i src hs;split
    ·exact dD_
    ·exact fS_ hq (cg_ dD_ (gk_ (on_ (bb_ hp hs).1)))
  ·split
   ·exact dD_
   ·rename_i q hs;have hn:EH q:=on_ (bb_ hp hs).1;split
    ·exact fS_ hn (fun q ha=>by simp at ha;subst ha;exact YB _)
    ·split
     ·exact fS_ hn (fun q ha=>by simp at ha;subst ha;exact YB _)
     ·exact cg_ dD_ (gk_ hn)
theorem pM_ (hp:Ap p=true)(hd:AJ p)(hf:o.file.size<=9223372036854775807)(hi:o.into.size<=9223372036854775807)(hl:(Ai p o).2.2.length<=1000):WS (Ak p o).2.vs:=by
 obtain⟨_,_,ht,_⟩:=aQ_ hp;have hv:=mW_ ht hd.2.2.2.1;have ha:WS p.vs:=iY_ (by have:=ht.1;omega) (fun v h=>(hv v h).1);unfold Ak;simp only;split
 ·exact ha
 ·split
  ·exact ha
  ·rename_i i _ v hvi;split
   ·exact ha
   ·split
    ·refine iY_ (by rw[List.length_set];have:=ht.1;omega) (fun u hu=>?_);rcases List.mem_or_eq_of_mem_set hu with hu | rfl
     ·exact (hv u hu).1
     ·have hb:=hv v (Zc hvi);refine⟨hb.1.1,?_,fun x hx=>?_⟩
      ·have:=kw_ ⟨if o.k=5 then o.into else o.file,(Ai p o).2.2⟩ v.its
       simp only;omega
      ·rcases kx_ hx with rfl | hx
       ·refine⟨?_,hl,oN_ hp⟩;simp only;split<;>assumption
       ·exact hb.1.2.2 x hx
    ·exact ha
theorem qc_ (hp:Ap p=true)(hd:AJ p)(hv0:o.vol.size<=9223372036854775807)(ht0:o.to.size<=9223372036854775807):WS (AC p o).2.vs:=by
 obtain⟨_,_,ht,_⟩:=aQ_ hp;have hv:=mW_ ht hd.2.2.2.1;have h6:=ht.1;have ha:WS p.vs:=iY_ (by omega) (fun v h=>(hv v h).1)
 have he:∀ (i:Nat) (y:Vo),Lp y->WS (p.vs.set i y):=fun i y hy=>iY_ (by rw[List.length_set];omega) (fun u hu=>by
  rcases List.mem_or_eq_of_mem_set hu with hu | rfl
  ·exact (hv u hu).1
  ·exact hy)
 have hc:∀ y:Vo,Lp y->WS (p.vs++[y]):=fun y hy=>iY_ (by simp;omega) (fun u hu=>by
  rcases Zs.1 hu with hu | hu
  ·exact (hv u hu).1
  ·simp at hu;subst hu;exact hy)
 unfold AC;split
 ·split
  ·exact hc _ ⟨hv0,by simp,fun x hx=>by cases hx⟩
  ·exact ha
 ·split
  ·exact ha
  ·rename_i i _ v hvi;have hb:=(hv v (Zc hvi)).1;split
   ·exact ha
   ·split
    ·split
     ·exact ha
     ·exact hc _ ⟨ht0,hb.2.1,hb.2.2⟩
    ·split
     ·refine iY_ (by simp;omega) (fun u hu=>?_);rcases Zs.1 hu with hu | hu
      ·exact (hv u (ZX hu)).1
      ·exact (hv u (List.mem_of_mem_drop hu)).1
     ·split
      ·split
       ·exact ha
       ·exact he _ _ ⟨hb.1,hb.2.1,hb.2.2⟩
      ·split
       ·split
        ·exact ha
        ·split
         ·exact ha
         ·refine he _ _ ⟨hb.1,?_,fun x hx=>?_⟩
          ·have:=hb.2.1
           simp only[ZE,Zz,List.length_drop];omega
          ·rcases Zs.1 hx with hx | hx
           ·exact hb.2.2 x (ZX hx)
           ·exact hb.2.2 x (List.mem_of_mem_drop hx)
       ·exact ha
end
end Go.Proofs.YtkiceokhlceciaaGreatDoor
