/- Plain facts: what the model's joining of right parts is right for. -/
import Derived.Test.YtdmeabghpchckaaGreatDoorU20
set_option maxHeartbeats 20000000
set_option maxRecDepth 100000
namespace Go.Proofs.YtdmeabghpchckaaGreatDoor
section
open Go Go.RowKit Go.BigFrame Tryz
variable{t:Int}{m2 m3 m4 m5 n2:Nat}{c2 c3 c4 c5:Option Addr}{ty:TypeId}{w:World}
theorem f7_ (B:Nat)(hB0:0<B)(v:Value)(p:Po)(o:Opr)(w:World)(h:Al B w v p)(hNn:NnE v)(hBw:B<=w.heap.size)(hd:AB p)(hp:Ai p=true)(hk:o.k=2)(i:Nat)(hso:volI p.vs o.vol=some i)(hfx:∀ x:Vo,p.vs[i]?=some x->x.fx=false)(hda:As o.data=true)(ha:0<=o.at'∧o.at'<=100)(L:List Ex)(a:Int)(hab:1<=a∧a<=400)(hpl:AV p.size p.ex o.data=some (L,a)):
  Calls prog 72 #[v,.agg #[.int .i64 o.k,.string o.vol,.string o.file,.string o.to,.string o.into,.int .i64 o.at',.int .i64 o.fr,.int .i64 o.ln,.string o.data]] w fun e w'=>(∃ v' c,e=.returned (.tuple #[v',.int .i64 c])∧Bg v'∧c=(Ap p o).1∧(c=0->Al B w' v' (Ap p o).2∧(Ah p o).2.2.length<=1000))∧Below B w w'∧FrV w w':=by
 have hF:=h.at';obtain⟨ea,en,ec,va,vn,vc,ra,rn,rc,la,ln,lc,rows,rfl,h1,⟨h2,h3⟩,h4,h5,h6⟩:=h;have hR:=hd;obtain⟨z1,z2,z3,z4,z5,z6,z7,z8⟩:=hd;have hV:Ba B w va vn p.vs:=h3.rows.vs h2;rw[hV.len] at z3;obtain⟨size,next,ex,vs,rf,lt⟩:=p;obtain⟨k,vol,file,tt,into,at0,fr,ln0,data⟩:=o;simp only at h1 h2 h3 h4 h5 hV z4 z3 hF hp hk ⊢;have _:=hB0;have _:=hNn;have _:=hBw;have _:=hp;have hw:ea≠none:=hNn _ _ _ _ _ _ _ _ rfl;obtain⟨eb,rfl,hT⟩:=h1.addrN hw;have hZ:vs.length=vn:=hV.len;have h8:rows.length=vn:=h2.sl.len;simp only at hso hfx hda ha hpl;subst hk;have hi:=ap_ hso;have hW:i<vn:=by omega
 have hx:vs[i]?=some vs[i]:=by simp[hi]
 have qg:(0:Int)<=(i:Int):=by omega
 have hX:(i:Int)<vn:=by omega
 have hr:rows[i]?=some (rows[i]'(by omega)):=by simp[h8,hW]
 have VT:=h3.at' i _ _ hr hx;generalize rows[i]'(by omega)=r0 at *;generalize vs[i]=x at *;obtain⟨rid,rnm,rfx,pa0,pn0,pc0⟩:=r0;obtain⟨e1,e2,e3,irows,RI,TI⟩:=VT;simp only at e1 e2 e3 RI;subst e1 e2 e3;obtain⟨vb,rfl,h9,qb,qd⟩:=h2.addr (by omega);have hf:=hfx _ hx;clear hfx;have hN:Ah ⟨size,next,ex,vs,rf,lt⟩ ⟨2,vol,file,tt,into,at0,fr,ln0,data⟩=(0,L,AH ((Ar vs vol file).getD []) at0 [⟨a,0,data.size⟩]):=by simp[Ah,hpl]
 have hS:Hid (Ap ⟨size,next,ex,vs,rf,lt⟩ ⟨2,vol,file,tt,into,at0,fr,ln0,data⟩=(0,⟨size,next,L,vs.set i ⟨x.id,x.nm,x.fx,A9 ⟨file,AH ((Ar vs vol file).getD []) at0 [⟨a,0,data.size⟩]⟩ x.its⟩,rf,lt⟩)):=by show _=_;simp[Ap,hso,hx,hf,hN]
 generalize hG:Ah ⟨size,next,ex,vs,rf,lt⟩ ⟨2,vol,file,tt,into,at0,fr,ln0,data⟩=PS at *;replace hG:Hid (Ah ⟨size,next,ex,vs,rf,lt⟩ ⟨2,vol,file,tt,into,at0,fr,ln0,data⟩=PS):=hG;generalize Ap ⟨size,next,ex,vs,rf,lt⟩ ⟨2,vol,file,tt,into,at0,fr,ln0,data⟩=R at *;have hU:Hid (x.fx=false):=hf;clear hf;go_enter func72,ntmps72
 go_wp2_with fail
 refine (ak_ B size next (some ⟨eb,0,none⟩) en ec (some ⟨vb,0,none⟩) vn vc ra rn rc la ln lc vs vol _ (hV.below (by go_grown)) z3).mono ?_;rintro e w1 ⟨rfl,hE⟩;obtain⟨C,O,D,hn,qi⟩:=bx3 hE;clear hE;rw[hso];simp only[Bo];obtain⟨c0,c1,c2,c3,c4,c5⟩:=C.six';obtain⟨o0,o1,o2,o3,o4,o5,o6,o7,o8⟩:=ce9 O;obtain⟨x0,x1,x2,x3,x4,x5⟩:=D.six';obtain⟨f0,f1,f2,f3,f4,f5⟩:=fz6 D;have RA:=h2.below hn;have e2:w1.cell? ⟨vb,i*4+2,none⟩=some (.bool x.fx):=RA.cellAt (j:=2) hr rfl;rw[hU.out] at e2
 go_wp2_with fail
 refine (aH_ B _ ⟨size,next,ex,vs,rf,lt⟩ vol file _ (hF.below hn) hR).mono ?_;rintro e wA ⟨hj,hq⟩;obtain⟨qa,qn,qc,rfl,hQ⟩:=hj.uni;clear hj;have h7:Ac ((Ar vs vol file).getD [])=true:=bH_ (p:=⟨size,next,ex,vs,rf,lt⟩) hp;simp only at hQ ⊢;clear c0 c1 c2 c3 c4 c5 o0 o1 o2 o3 o4 o5 o6 o7 o8 x0 x1 x2 x3 x4 x5 f0 f1 f2 f3 f4 f5;have C':=C.below hq;have D':=D.below hq;have O':=O.below hq;have hs:=Aa hn hq;have ql:=hq.size;clear C D O e2 RA;obtain⟨c0,c1,c2,c3,c4,c5⟩:=C'.six';obtain⟨o0,o1,o2,o3,o4,o5,o6,o7,o8⟩:=ce9 O';obtain⟨x0,x1,x2,x3,x4,x5⟩:=D'.six';obtain⟨f0,f1,f2,f3,f4,f5⟩:=fz6 D';generalize (Ar vs vol file).getD []=Q at *;have hP:data.size<=20:=by simp[As] at hda;omega
 go_wp2_with fail
 refine (gK_ size eb 0 en ec ex data _ (h1.sl.below hs) z2 (by rw[<-h1.sl.len];exact z1) hT (by omega)).mono ?_;rintro e wP ⟨hj,ho⟩;rw[hpl] at hj;obtain⟨xa,xn,xc,rfl,RX⟩:=hj;have qf:=bl_ hda
 have hC:Ac [⟨a,0,data.size⟩]=true:=by
  have h0:(a==0)=false:=ZV.2 (by omega);simp[Ac,pgo,Ag,h0];omega
 have CP:=C'.below ho;have DP:=D'.below ho;have OP:=O'.below ho;have ht:=Aa hs ho;have qp:=ho.size;clear c0 c1 c2 c3 c4 c5 o0 o1 o2 o3 o4 o5 o6 o7 o8 x0 x1 x2 x3 x4 x5 f0 f1 f2 f3 f4 f5;have g2:=CP.frozen 2;have C3:Blk (wP.setCell ⟨w.heap.size,2,none⟩ (.slice xa xn xc)) w.heap.size #[.int .i64 size,.int .i64 next,.slice xa xn xc,.slice (some ⟨vb,0,none⟩) vn vc,.slice ra rn rc,.slice la ln lc] 28:=by simpa using CP.set 2 (.slice xa xn xc)
 have hv:=BW wP w.heap.size 2 (.slice xa xn xc);have D3:Blk (wP.setCell ⟨w.heap.size,2,none⟩ (.slice xa xn xc)) (w.heap.size+2) _ _:=(hv.block _ DP.lt (by simp only[ne_eq,Zo];omega)).trans DP;have O3:Blk (wP.setCell ⟨w.heap.size,2,none⟩ (.slice xa xn xc)) (w.heap.size+1) _ _:=(hv.block _ OP.lt (by simp only[ne_eq,Zo];omega)).trans OP;have hD:=RX.ty hv (aa_ CP) (by decide);have hH:=kV_ (hQ.below ho) CP 2 (.slice xa xn xc);have hL:=ht.grown hv ht.size (fun j e=>by cases e;exact Zd _);have qm:(wP.setCell ⟨w.heap.size,2,none⟩ (.slice xa xn xc)).heap.size=wP.heap.size:=by simp
 obtain⟨c0,c1,c2,c3,c4,c5⟩:=CP.six';have o5:wP.cell? ⟨w.heap.size+1,5,none⟩=some (.int .i64 at0):=OP.cell 5;have o8:wP.cell? ⟨w.heap.size+1,8,none⟩=some (.string data):=OP.cell 8
 go_wp2_with fail
 refine (cM_ qa qn qc Q at0 _ 1 1 [⟨a,0,data.size⟩] _ (hH.below (by go_grown)) (ck_ _ ⟨a,0,data.size⟩ _ _ (by simp)) h7 hC ha.1 ha.2).mono ?_;rintro e wL ⟨⟨pa1,pn1,pc1,rfl,qh,Rp⟩,hM⟩;have hm:Below (wP.setCell ⟨w.heap.size,2,none⟩ (.slice xa xn xc)).heap.size (wP.setCell ⟨w.heap.size,2,none⟩ (.slice xa xn xc)) wL:=Aa (by go_grown) hM;have CL:=C3.below hm;have DL:=D3.below hm;have hh:=Aa hL hm;have REL:=(hD.below hm).mono (show B<=wA.heap.size by omega);have hO:B<=((wP.setCell ⟨w.heap.size,2,none⟩ (.slice xa xn xc)).alloc (.cells #[.int .i64 a,.int .i64 0,.int .i64 data.size] 146)).heap.size:=by simp;omega
 clear c0 c1 c2 c3 c4 c5 o5 o8 CP DP OP C3 D3 O3 hv hD hH RX;have RL:=h2.below hh;have e0:wL.cell? ⟨vb,i*4,none⟩=some (.int .i64 x.id):=RL.cellAt (j:=0) hr rfl;have e1:wL.cell? ⟨vb,i*4+1,none⟩=some (.string x.nm):=RL.cellAt (j:=1) hr rfl;have e2:wL.cell? ⟨vb,i*4+2,none⟩=some (.bool x.fx):=RL.cellAt (j:=2) hr rfl;have e3:wL.cell? ⟨vb,i*4+3,none⟩=some (.slice pa0 pn0 pc0):=RL.cellAt (j:=3) hr rfl;have k3:wL.cell? ⟨w.heap.size,3,none⟩=some (.slice (some ⟨vb,0,none⟩) vn vc):=CL.cell 3;have qo:=hh.size;have hY:pn0<=4194304:=by have:=(z4 x (Zc hx)).2.1;rw[(TI.rows.its RI).len] at this;exact this
 go_wp2_with fail
 have hA:∀ u,Below wL.heap.size wL u->(fun u=>u.cell? ⟨w.heap.size,3,none⟩=some (.slice (some ⟨vb,0,none⟩) vn vc)∧u.cell? ⟨vb,i*4,none⟩=some (.int .i64 x.id)∧u.cell? ⟨vb,i*4+1,none⟩=some (.string x.nm)∧u.cell? ⟨vb,i*4+2,none⟩=some (.bool x.fx)∧u.cell? ⟨vb,i*4+3,none⟩=some (.slice pa0 pn0 pc0)) u:=fun u hu=>⟨Ab hu k3,Ab hu e0,Ab hu e1,Ab hu e2,Ab hu e3⟩;have qe:=hA wL.drew ((Yg _ _).drew);refine ar_ (S:=(fun u=>u.cell? ⟨w.heap.size,3,none⟩=some (.slice (some ⟨vb,0,none⟩) vn vc)∧u.cell? ⟨vb,i*4,none⟩=some (.int .i64 x.id)∧u.cell? ⟨vb,i*4+1,none⟩=some (.string x.nm)∧u.cell? ⟨vb,i*4+2,none⟩=some (.bool x.fx)∧u.cell? ⟨vb,i*4+3,none⟩=some (.slice pa0 pn0 pc0))) 12 (by kernel_rfl) (by kernel_rfl) ?_;refine tk 0 ?_;refine tk 1 ?_;refine tk 2 ?_;refine tk 3 ?_;refine tk 4 ?_;refine tk 5 ?_;refine tk 6 ?_;refine tk 7 ?_;refine tk 8 ?_;refine tk 9 ?_;refine AW (i:=10) (by kernel_rfl) rfl (fun K hK=>?_);go_simp;refine (cB_ B x.id x.nm x.fx x.its pa0 pn0 pc0 irows file pa1 pn1 pc1 (AH Q at0 [⟨a,0,data.size⟩]) _ ((RI.below hh).below ((Yg _ _).drew)) ((TI.below hh).below ((Yg _ _).drew)) ((Rp.mono hO).below ((Yg _ _).drew)) hY).mono ?_;rintro e w5 ⟨⟨a2,n2,cap2,nrows,rfl,RN,TN⟩,hz⟩;have he:Below wL.heap.size wL w5:=Aa ((Yg _ _).drew) hz;have qk:=he.size;dsimp only;refine hK.out _ _ (hA _ he) (fun hHeld=>?_);clear hK K
 try simp only[Act.put,lsA,lsB,lsC]
 refine tk 11 ?_;refine wpAnyH_done (by kernel_rfl) ?_ _;refine BI rfl ?_;have hg:=Aa hh he;have hy:=RL.below he;obtain⟨vcs,VB⟩:=hy.blkAt;have z0:=VB.frozen (i*4);have z1':=VB.frozen (i*4+1);have z2':=VB.frozen (i*4+2);have z3':=VB.frozen (i*4+3);have v0:=Ab he e0;have v1:=Ab he e1;have v2:=Ab he e2;have v3:=Ab he e3;have hc:=DW w5 vb (i*4) (.int .i64 x.id) (.string x.nm) (.bool x.fx) (.slice a2 n2 cap2);have hl:By w5 (some vb) 38:=aa_ VB;have R1:=hy.set4V hr ⟨x.id,x.nm,x.fx,a2,n2,cap2⟩;simp only at R1;have T1:=((h3.below hg).ty hc hl (by decide) (by decide)).set i (show Bd B _ ⟨x.id,x.nm,x.fx,a2,n2,cap2⟩ ⟨x.id,x.nm,x.fx,A9 ⟨file,(AH Q at0 [⟨a,0,data.size⟩])⟩ x.its⟩ from ⟨rfl,rfl,rfl,nrows,(RN.ty hc hl (by decide)).mono (by simp only[World.size_drew] at *;omega),TN.ty hc hl (by decide)⟩);have C2:=(CL.below he).ty hc hl (by decide);have D2:=(DL.below he).ty hc hl (by decide);have P2:Al B ((((w5.setCell ⟨vb,i*4,none⟩ (.int .i64 x.id)).setCell ⟨vb,i*4+1,none⟩ (.string x.nm)).setCell ⟨vb,i*4+2,none⟩ (.bool x.fx)).setCell ⟨vb,i*4+3,none⟩ (.slice a2 n2 cap2)) (.agg #[.int .i64 size,.int .i64 next,.slice xa xn xc,.slice (some ⟨vb,0,none⟩) vn vc,.slice ra rn rc,.slice la ln lc]) ⟨size,next,L,vs.set i ⟨x.id,x.nm,x.fx,A9 ⟨file,AH Q at0 [⟨a,0,data.size⟩]⟩ x.its⟩,rf,lt⟩:=⟨xa,xn,xc,some ⟨vb,0,none⟩,vn,vc,ra,rn,rc,la,ln,lc,_,rfl,(REL.below he).ty hc hl (by decide),⟨R1,T1⟩,(h4.below hg).ty hc hl (by decide),(h5.below hg).ty hc hl (by decide),h6⟩;obtain⟨y0,y1,y2,y3,y4,y5⟩:=C2.six';obtain⟨q0,q1,q2,q3,q4,q5⟩:=D2.six';obtain⟨m0,m1,m2,m3,m4,m5⟩:=fz6 D2;have hJ:=(hg.mono hBw).grown hc (by omega) (fun j e=>by cases e;exact h9);have qj:=hc.size;have FT0:Hid (FrV w ((((w5.setCell ⟨vb,i*4,none⟩ (.int .i64 x.id)).setCell ⟨vb,i*4+1,none⟩ (.string x.nm)).setCell ⟨vb,i*4+2,none⟩ (.bool x.fx)).setCell ⟨vb,i*4+3,none⟩ (.slice a2 n2 cap2))):=fun k c t hb hw=>(hb.below hg).ty hc hl hw;clear R1 T1 hc hy VB hl hA;go_wp2;obtain⟨W8,hI,W0,hB⟩:=AU D2 (.int .i64 size) (.int .i64 next) (.slice xa xn xc) (.slice (some ⟨vb,0,none⟩) vn vc) (.slice ra rn rc) (.slice la ln lc);have PF:=P2.tyP hB (aa_ D2);have B8:=hJ.grown hB (by omega) (fun j e=>by cases e;omega);have FT:=fun (k:Nat) (c:Array Value) (t:TypeId) (hb:Blk w k c t) (hw:t≠38)=>(FT0.out k c t hb hw).offB hB (B:=w.heap.size) (fun j e=>by cases e;omega) hb.lt;rw[<-hI];clear hI;refine YW (ad_ rfl _ W8 (w.heap.size+2) _ _ _ _ _ rfl W0 underlying28 rfl (by kernel_rfl) rfl) rfl ?_;exact⟨⟨_,0,rfl,bm_ _ _ _ _ _ _ _ _ _ _ _ _ _ _,by rw[hS.out],fun _=>⟨by rw[hS.out];exact PF,by exact Zl (Zm Rp.sl.len) (by omega)⟩⟩,B8,FT⟩
end
section
open Go Go.RowKit Go.BigFrame Tryz
variable{size:Int}
theorem e9_ (B:Nat)(hB0:0<B)(v:Value)(p:Po)(o:Opr)(w:World)(h:Al B w v p)(hNn:NnE v)(hBw:B<=w.heap.size)(hd:AB p)(hp:Ai p=true)(hk:o.k=3)(i:Nat)(hso:volI p.vs o.vol=some i)(hfx:∀ x:Vo,p.vs[i]?=some x->x.fx=false)(hpo:Ar p.vs o.vol o.file=none):
  Calls prog 72 #[v,.agg #[.int .i64 o.k,.string o.vol,.string o.file,.string o.to,.string o.into,.int .i64 o.at',.int .i64 o.fr,.int .i64 o.ln,.string o.data]] w fun e w'=>(∃ v' c,e=.returned (.tuple #[v',.int .i64 c])∧Bg v'∧c=(Ap p o).1∧(c=0->Al B w' v' (Ap p o).2∧(Ah p o).2.2.length<=1000))∧Below B w w'∧FrV w w':=by
 have hh:=h.at';obtain⟨ea,en,ec,va,vn,vc,ra,rn,rc,la,ln,lc,rows,rfl,h1,⟨h2,h3⟩,h4,h5,h6⟩:=h;have ho:=hd;obtain⟨z1,z2,z3,z4,z5,z6,z7,z8⟩:=hd;have hV:Ba B w va vn p.vs:=h3.rows.vs h2;rw[hV.len] at z3;obtain⟨size,next,ex,vs,rf,lt⟩:=p;obtain⟨k,vol,file,tt,into,at0,fr,ln0,data⟩:=o;simp only at h1 h2 h3 h4 h5 hV z4 z3 hh hp hk ⊢;have _:=hB0;have _:=hNn;have _:=hBw;have _:=hp;have hv:vs.length=vn:=hV.len;have hw:rows.length=vn:=h2.sl.len;simp only at hso hfx hpo;subst hk;have hi:=ap_ hso;have ht:i<vn:=by omega
 have hx:vs[i]?=some vs[i]:=by simp[hi]
 have hA:(0:Int)<=(i:Int):=by omega
 have hu:(i:Int)<vn:=by omega
 have hr:rows[i]?=some (rows[i]'(by omega)):=by simp[hw,ht]
 have VT:=h3.at' i _ _ hr hx;generalize rows[i]'(by omega)=r0 at *;generalize vs[i]=x at *;obtain⟨rid,rnm,rfx,pa0,pn0,pc0⟩:=r0;obtain⟨e1,e2,e3,irows,RI,TI⟩:=VT;simp only at e1 e2 e3 RI;subst e1 e2 e3;obtain⟨vb,rfl,hD,hy,hz⟩:=h2.addr (by omega);have hf:=hfx _ hx;clear hfx;have hn:Ah ⟨size,next,ex,vs,rf,lt⟩ ⟨3,vol,file,tt,into,at0,fr,ln0,data⟩=(3,ex,[]):=by simp[Ah,hpo]
 have hS:Hid (Ap ⟨size,next,ex,vs,rf,lt⟩ ⟨3,vol,file,tt,into,at0,fr,ln0,data⟩=(3,⟨size,next,ex,vs,rf,lt⟩)):=by show _=_;simp[Ap,hso,hx,hf,hn]
 generalize hj:Ah ⟨size,next,ex,vs,rf,lt⟩ ⟨3,vol,file,tt,into,at0,fr,ln0,data⟩=PS at *;replace hj:Hid (Ah ⟨size,next,ex,vs,rf,lt⟩ ⟨3,vol,file,tt,into,at0,fr,ln0,data⟩=PS):=hj;generalize Ap ⟨size,next,ex,vs,rf,lt⟩ ⟨3,vol,file,tt,into,at0,fr,ln0,data⟩=R at *;have hq:Hid (x.fx=false):=hf;clear hf;go_enter func72,ntmps72
 go_wp2_with fail
 refine (ak_ B size next ea en ec (some ⟨vb,0,none⟩) vn vc ra rn rc la ln lc vs vol _ (hV.below (by go_grown)) z3).mono ?_;rintro e w1 ⟨rfl,hg⟩;obtain⟨C,O,D,ha,hB⟩:=bx3 hg;clear hg;rw[hso];simp only[Bo];obtain⟨c0,c1,c2,c3,c4,c5⟩:=C.six';obtain⟨o0,o1,o2,o3,o4,o5,o6,o7,o8⟩:=ce9 O;obtain⟨x0,x1,x2,x3,x4,x5⟩:=D.six';obtain⟨f0,f1,f2,f3,f4,f5⟩:=fz6 D;have RA:=h2.below ha;have e2:w1.cell? ⟨vb,i*4+2,none⟩=some (.bool x.fx):=RA.cellAt (j:=2) hr rfl;rw[hq.out] at e2
 go_wp2_with fail
 refine (aH_ B _ ⟨size,next,ex,vs,rf,lt⟩ vol file _ (hh.below ha) ho).mono ?_;rintro e wA ⟨he,hb⟩;obtain⟨qa,qn,qc,rfl,hQ⟩:=he.uni;clear he;have hm:Ac ((Ar vs vol file).getD [])=true:=bH_ (p:=⟨size,next,ex,vs,rf,lt⟩) hp;simp only at hQ ⊢;clear c0 c1 c2 c3 c4 c5 o0 o1 o2 o3 o4 o5 o6 o7 o8 x0 x1 x2 x3 x4 x5 f0 f1 f2 f3 f4 f5;have C':=C.below hb;have D':=D.below hb;have O':=O.below hb;have hc:=Aa ha hb;have hC:=hb.size;clear C D O e2 RA;obtain⟨c0,c1,c2,c3,c4,c5⟩:=C'.six';obtain⟨o0,o1,o2,o3,o4,o5,o6,o7,o8⟩:=ce9 O';obtain⟨x0,x1,x2,x3,x4,x5⟩:=D'.six';obtain⟨f0,f1,f2,f3,f4,f5⟩:=fz6 D';rw[hpo] at hQ hm ⊢;simp only[Option.getD_none,Option.isSome_none] at hQ hm ⊢;go_wp2;obtain⟨W8,hl,W0,hs⟩:=AU D' (.int .i64 size) (.int .i64 next) (.slice ea en ec) (.slice (some ⟨vb,0,none⟩) vn vc) (.slice ra rn rc) (.slice la ln lc);have B8:=hc.grown hs hc.size (fun j e=>by cases e;omega);rw[<-hl];clear hl;refine YW (ad_ rfl _ W8 (w.heap.size+2) _ _ _ _ _ rfl W0 underlying28 rfl (by kernel_rfl) rfl) rfl ?_;exact⟨⟨_,3,rfl,bm_ _ _ _ _ _ _ _ _ _ _ _ _ _ _,by rw[hS.out],fun h=>absurd h (by omega)⟩,B8.mono hBw,FrV.of B8⟩
theorem ei_ (B:Nat)(hB0:0<B)(v:Value)(p:Po)(o:Opr)(w:World)(h:Al B w v p)(hNn:NnE v)(hBw:B<=w.heap.size)(hd:AB p)(hp:Ai p=true)(hk:o.k=10)(i:Nat)(hso:volI p.vs o.vol=some i)(hfx:∀ x:Vo,p.vs[i]?=some x->x.fx=false)(hpo:Ar p.vs o.vol o.file=none):
  Calls prog 72 #[v,.agg #[.int .i64 o.k,.string o.vol,.string o.file,.string o.to,.string o.into,.int .i64 o.at',.int .i64 o.fr,.int .i64 o.ln,.string o.data]] w fun e w'=>(∃ v' c,e=.returned (.tuple #[v',.int .i64 c])∧Bg v'∧c=(Ap p o).1∧(c=0->Al B w' v' (Ap p o).2∧(Ah p o).2.2.length<=1000))∧Below B w w'∧FrV w w':=by
 have hh:=h.at';obtain⟨ea,en,ec,va,vn,vc,ra,rn,rc,la,ln,lc,rows,rfl,h1,⟨h2,h3⟩,h4,h5,h6⟩:=h;have ho:=hd;obtain⟨z1,z2,z3,z4,z5,z6,z7,z8⟩:=hd;have hV:Ba B w va vn p.vs:=h3.rows.vs h2;rw[hV.len] at z3;obtain⟨size,next,ex,vs,rf,lt⟩:=p;obtain⟨k,vol,file,tt,into,at0,fr,ln0,data⟩:=o;simp only at h1 h2 h3 h4 h5 hV z4 z3 hh hp hk ⊢;have _:=hB0;have _:=hNn;have _:=hBw;have _:=hp;have hv:vs.length=vn:=hV.len;have hw:rows.length=vn:=h2.sl.len;simp only at hso hfx hpo;subst hk;have hi:=ap_ hso;have ht:i<vn:=by omega
 have hx:vs[i]?=some vs[i]:=by simp[hi]
 have hA:(0:Int)<=(i:Int):=by omega
 have hu:(i:Int)<vn:=by omega
 have hr:rows[i]?=some (rows[i]'(by omega)):=by simp[hw,ht]
 have VT:=h3.at' i _ _ hr hx;generalize rows[i]'(by omega)=r0 at *;generalize vs[i]=x at *;obtain⟨rid,rnm,rfx,pa0,pn0,pc0⟩:=r0;obtain⟨e1,e2,e3,irows,RI,TI⟩:=VT;simp only at e1 e2 e3 RI;subst e1 e2 e3;obtain⟨vb,rfl,hD,hy,hz⟩:=h2.addr (by omega);have hf:=hfx _ hx;clear hfx;have hn:Ah ⟨size,next,ex,vs,rf,lt⟩ ⟨10,vol,file,tt,into,at0,fr,ln0,data⟩=(3,ex,[]):=by simp[Ah,hpo]
 have hS:Hid (Ap ⟨size,next,ex,vs,rf,lt⟩ ⟨10,vol,file,tt,into,at0,fr,ln0,data⟩=(3,⟨size,next,ex,vs,rf,lt⟩)):=by show _=_;simp[Ap,hso,hx,hf,hn]
 generalize hj:Ah ⟨size,next,ex,vs,rf,lt⟩ ⟨10,vol,file,tt,into,at0,fr,ln0,data⟩=PS at *;replace hj:Hid (Ah ⟨size,next,ex,vs,rf,lt⟩ ⟨10,vol,file,tt,into,at0,fr,ln0,data⟩=PS):=hj;generalize Ap ⟨size,next,ex,vs,rf,lt⟩ ⟨10,vol,file,tt,into,at0,fr,ln0,data⟩=R at *;have hq:Hid (x.fx=false):=hf;clear hf;go_enter func72,ntmps72
 go_wp2_with fail
 refine (ak_ B size next ea en ec (some ⟨vb,0,none⟩) vn vc ra rn rc la ln lc vs vol _ (hV.below (by go_grown)) z3).mono ?_;rintro e w1 ⟨rfl,hg⟩;obtain⟨C,O,D,ha,hB⟩:=bx3 hg;clear hg;rw[hso];simp only[Bo];obtain⟨c0,c1,c2,c3,c4,c5⟩:=C.six';obtain⟨o0,o1,o2,o3,o4,o5,o6,o7,o8⟩:=ce9 O;obtain⟨x0,x1,x2,x3,x4,x5⟩:=D.six';obtain⟨f0,f1,f2,f3,f4,f5⟩:=fz6 D;have RA:=h2.below ha;have e2:w1.cell? ⟨vb,i*4+2,none⟩=some (.bool x.fx):=RA.cellAt (j:=2) hr rfl;rw[hq.out] at e2
 go_wp2_with fail
 refine (aH_ B _ ⟨size,next,ex,vs,rf,lt⟩ vol file _ (hh.below ha) ho).mono ?_;rintro e wA ⟨he,hb⟩;obtain⟨qa,qn,qc,rfl,hQ⟩:=he.uni;clear he;have hm:Ac ((Ar vs vol file).getD [])=true:=bH_ (p:=⟨size,next,ex,vs,rf,lt⟩) hp;simp only at hQ ⊢;clear c0 c1 c2 c3 c4 c5 o0 o1 o2 o3 o4 o5 o6 o7 o8 x0 x1 x2 x3 x4 x5 f0 f1 f2 f3 f4 f5;have C':=C.below hb;have D':=D.below hb;have O':=O.below hb;have hc:=Aa ha hb;have hC:=hb.size;clear C D O e2 RA;obtain⟨c0,c1,c2,c3,c4,c5⟩:=C'.six';obtain⟨o0,o1,o2,o3,o4,o5,o6,o7,o8⟩:=ce9 O';obtain⟨x0,x1,x2,x3,x4,x5⟩:=D'.six';obtain⟨f0,f1,f2,f3,f4,f5⟩:=fz6 D';rw[hpo] at hQ hm ⊢;simp only[Option.getD_none,Option.isSome_none] at hQ hm ⊢;go_wp2;obtain⟨W8,hl,W0,hs⟩:=AU D' (.int .i64 size) (.int .i64 next) (.slice ea en ec) (.slice (some ⟨vb,0,none⟩) vn vc) (.slice ra rn rc) (.slice la ln lc);have B8:=hc.grown hs hc.size (fun j e=>by cases e;omega);rw[<-hl];clear hl;refine YW (ad_ rfl _ W8 (w.heap.size+2) _ _ _ _ _ rfl W0 underlying28 rfl (by kernel_rfl) rfl) rfl ?_;exact⟨⟨_,3,rfl,bm_ _ _ _ _ _ _ _ _ _ _ _ _ _ _,by rw[hS.out],fun h=>absurd h (by omega)⟩,B8.mono hBw,FrV.of B8⟩
theorem eH_ (B:Nat)(hB0:0<B)(v:Value)(p:Po)(o:Opr)(w:World)(h:Al B w v p)(hNn:NnE v)(hBw:B<=w.heap.size)(hd:AB p)(hp:Ai p=true)(hk:o.k=5)(i:Nat)(hso:volI p.vs o.to=some i)(hfx:∀ x:Vo,p.vs[i]?=some x->x.fx=false)(hsr:Ar p.vs o.vol o.file=none):
  Calls prog 72 #[v,.agg #[.int .i64 o.k,.string o.vol,.string o.file,.string o.to,.string o.into,.int .i64 o.at',.int .i64 o.fr,.int .i64 o.ln,.string o.data]] w fun e w'=>(∃ v' c,e=.returned (.tuple #[v',.int .i64 c])∧Bg v'∧c=(Ap p o).1∧(c=0->Al B w' v' (Ap p o).2∧(Ah p o).2.2.length<=1000))∧Below B w w'∧FrV w w':=by
 have ho:=h.at';obtain⟨ea,en,ec,va,vn,vc,ra,rn,rc,la,ln,lc,rows,rfl,h1,⟨h2,h3⟩,h4,h5,h6⟩:=h;have hv:=hd;obtain⟨z1,z2,z3,z4,z5,z6,z7,z8⟩:=hd;have hV:Ba B w va vn p.vs:=h3.rows.vs h2;rw[hV.len] at z3;obtain⟨size,next,ex,vs,rf,lt⟩:=p;obtain⟨k,vol,file,tt,into,at0,fr,ln0,data⟩:=o;simp only at h1 h2 h3 h4 h5 hV z4 z3 ho hp hk ⊢;have _:=hB0;have _:=hNn;have _:=hBw;have _:=hp;have hD:vs.length=vn:=hV.len;have hF:rows.length=vn:=h2.sl.len;simp only at hso hfx hsr;subst hk;have hi:=ap_ hso;have hB:i<vn:=by omega
 have hx:vs[i]?=some vs[i]:=by simp[hi]
 have hI:(0:Int)<=(i:Int):=by omega
 have hC:(i:Int)<vn:=by omega
 have hr:rows[i]?=some (rows[i]'(by omega)):=by simp[hF,hB]
 have VT:=h3.at' i _ _ hr hx;generalize rows[i]'(by omega)=r0 at *;generalize vs[i]=x at *;obtain⟨rid,rnm,rfx,pa0,pn0,pc0⟩:=r0;obtain⟨e1,e2,e3,irows,RI,TI⟩:=VT;simp only at e1 e2 e3 RI;subst e1 e2 e3;obtain⟨vb,rfl,hO,hG,hH⟩:=h2.addr (by omega);have hf:=hfx _ hx;clear hfx;have hy:Ah ⟨size,next,ex,vs,rf,lt⟩ ⟨5,vol,file,tt,into,at0,fr,ln0,data⟩=(3,ex,[]):=by simp[Ah,hsr]
 have hS:Hid (Ap ⟨size,next,ex,vs,rf,lt⟩ ⟨5,vol,file,tt,into,at0,fr,ln0,data⟩=(3,⟨size,next,ex,vs,rf,lt⟩)):=by show _=_;simp[Ap,hso,hx,hf,hy]
 generalize ht:Ah ⟨size,next,ex,vs,rf,lt⟩ ⟨5,vol,file,tt,into,at0,fr,ln0,data⟩=PS at *;replace ht:Hid (Ah ⟨size,next,ex,vs,rf,lt⟩ ⟨5,vol,file,tt,into,at0,fr,ln0,data⟩=PS):=ht;generalize Ap ⟨size,next,ex,vs,rf,lt⟩ ⟨5,vol,file,tt,into,at0,fr,ln0,data⟩=R at *;have hz:Hid (x.fx=false):=hf;clear hf;go_enter func72,ntmps72
 go_wp2_with fail
 refine (ak_ B size next ea en ec (some ⟨vb,0,none⟩) vn vc ra rn rc la ln lc vs tt _ (hV.below (by go_grown)) z3).mono ?_;rintro e w1 ⟨rfl,hs⟩;obtain⟨C,O,D,he,hK⟩:=bx3 hs;clear hs;rw[hso];simp only[Bo];obtain⟨c0,c1,c2,c3,c4,c5⟩:=C.six';obtain⟨o0,o1,o2,o3,o4,o5,o6,o7,o8⟩:=ce9 O;obtain⟨x0,x1,x2,x3,x4,x5⟩:=D.six';obtain⟨f0,f1,f2,f3,f4,f5⟩:=fz6 D;have RA:=h2.below he;have e2:w1.cell? ⟨vb,i*4+2,none⟩=some (.bool x.fx):=RA.cellAt (j:=2) hr rfl;rw[hz.out] at e2
 go_wp2_with fail
 refine (aH_ B _ ⟨size,next,ex,vs,rf,lt⟩ tt into _ (ho.below he) hv).mono ?_;rintro e wA ⟨hb,hg⟩;obtain⟨qa,qn,qc,rfl,hQ⟩:=hb.uni;clear hb;have hJ:Ac ((Ar vs tt into).getD [])=true:=bH_ (p:=⟨size,next,ex,vs,rf,lt⟩) hp;simp only at hQ ⊢;clear c0 c1 c2 c3 c4 c5 o0 o1 o2 o3 o4 o5 o6 o7 o8 x0 x1 x2 x3 x4 x5 f0 f1 f2 f3 f4 f5;have C':=C.below hg;have D':=D.below hg;have O':=O.below hg;have hj:=Aa he hg;have hL:=hg.size;clear C D O e2 RA;obtain⟨c0,c1,c2,c3,c4,c5⟩:=C'.six';obtain⟨o0,o1,o2,o3,o4,o5,o6,o7,o8⟩:=ce9 O';obtain⟨x0,x1,x2,x3,x4,x5⟩:=D'.six';obtain⟨f0,f1,f2,f3,f4,f5⟩:=fz6 D'
 go_wp2_with fail
 refine (aH_ B _ ⟨size,next,ex,vs,rf,lt⟩ vol file _ (ho.below hj) hv).mono ?_;rintro e wB ⟨hb,hh⟩;obtain⟨sa,sn,sc,rfl,hR⟩:=hb.uni;clear hb;simp only at hR ⊢;rw[hsr] at hR ⊢;simp only[Option.getD_none,Option.isSome_none] at hR ⊢;clear c0 c1 c2 c3 c4 c5 o0 o1 o2 o3 o4 o5 o6 o7 o8 x0 x1 x2 x3 x4 x5 f0 f1 f2 f3 f4 f5;have hq:=C'.below hh;have hm:=D'.below hh;have hc:=O'.below hh;have hn:=Aa hj hh;have hM:=hh.size;clear C' D' O';obtain⟨c0,c1,c2,c3,c4,c5⟩:=hq.six';obtain⟨o0,o1,o2,o3,o4,o5,o6,o7,o8⟩:=ce9 hc;obtain⟨x0,x1,x2,x3,x4,x5⟩:=hm.six';obtain⟨f0,f1,f2,f3,f4,f5⟩:=fz6 hm
 go_wp2_with fail
 have g6:=Ae o6;have g7:=Ae o7;have hE:=aA_ wB;refine ab_ (by kernel_rfl) (by kernel_rfl) ?_
 repeat (go_big_quiet_step (fail))
 refine wpQuiet_nil ?_;intro wC hw;have ha:=ah_ hw;clear hw g6 g7 hE;have C3:=hq.below ha;have D3:=hm.below ha;have hl:=Aa hn ha;have hN:=ha.size;clear c0 c1 c2 c3 c4 c5 o0 o1 o2 o3 o4 o5 o6 o7 o8 x0 x1 x2 x3 x4 x5 f0 f1 f2 f3 f4 f5;obtain⟨c0,c1,c2,c3,c4,c5⟩:=C3.six';have o0:wC.cell? ⟨w.heap.size+1,0,none⟩=some (.int .i64 5):=(hc.below ha).cell 0;have o1:wC.cell? ⟨w.heap.size+1,1,none⟩=some (.string vol):=(hc.below ha).cell 1;have o2:wC.cell? ⟨w.heap.size+1,2,none⟩=some (.string file):=(hc.below ha).cell 2;have o3:wC.cell? ⟨w.heap.size+1,3,none⟩=some (.string tt):=(hc.below ha).cell 3;have o4:wC.cell? ⟨w.heap.size+1,4,none⟩=some (.string into):=(hc.below ha).cell 4;have o5:wC.cell? ⟨w.heap.size+1,5,none⟩=some (.int .i64 at0):=(hc.below ha).cell 5;have o6:wC.cell? ⟨w.heap.size+1,6,none⟩=some (.int .i64 fr):=(hc.below ha).cell 6;have o7:wC.cell? ⟨w.heap.size+1,7,none⟩=some (.int .i64 ln0):=(hc.below ha).cell 7;have o8:wC.cell? ⟨w.heap.size+1,8,none⟩=some (.string data):=(hc.below ha).cell 8;obtain⟨x0,x1,x2,x3,x4,x5⟩:=D3.six';obtain⟨f0,f1,f2,f3,f4,f5⟩:=fz6 D3;go_wp2;obtain⟨W8,hu,W0,hA⟩:=AU D3 (.int .i64 size) (.int .i64 next) (.slice ea en ec) (.slice (some ⟨vb,0,none⟩) vn vc) (.slice ra rn rc) (.slice la ln lc);have B8:=hl.grown hA hl.size (fun j e=>by cases e;omega);rw[<-hu];clear hu;refine YW (ad_ rfl _ W8 (w.heap.size+2) _ _ _ _ _ rfl W0 underlying28 rfl (by kernel_rfl) rfl) rfl ?_;exact⟨⟨_,3,rfl,bm_ _ _ _ _ _ _ _ _ _ _ _ _ _ _,by rw[hS.out],fun h=>absurd h (by omega)⟩,B8.mono hBw,FrV.of B8⟩
theorem fa_ (B:Nat)(hB0:0<B)(v:Value)(p:Po)(o:Opr)(w:World)(h:Al B w v p)(hNn:NnE v)(hBw:B<=w.heap.size)(hd:AB p)(hp:Ai p=true)(hk:o.k=5)(i:Nat)(hso:volI p.vs o.to=some i)(hfx:∀ x:Vo,p.vs[i]?=some x->x.fx=false)(q2:List Pt)(hsr:Ar p.vs o.vol o.file=some q2)(hfr:0<=o.fr∧o.fr<=100)(hl:1<=o.ln∧o.ln<=100)(hgt:Af q2<o.fr+o.ln):
  Calls prog 72 #[v,.agg #[.int .i64 o.k,.string o.vol,.string o.file,.string o.to,.string o.into,.int .i64 o.at',.int .i64 o.fr,.int .i64 o.ln,.string o.data]] w fun e w'=>(∃ v' c,e=.returned (.tuple #[v',.int .i64 c])∧Bg v'∧c=(Ap p o).1∧(c=0->Al B w' v' (Ap p o).2∧(Ah p o).2.2.length<=1000))∧Below B w w'∧FrV w w':=by
 have hs:=h.at';obtain⟨ea,en,ec,va,vn,vc,ra,rn,rc,la,ln,lc,rows,rfl,h1,⟨h2,h3⟩,h4,h5,h6⟩:=h;have hB:=hd;obtain⟨z1,z2,z3,z4,z5,z6,z7,z8⟩:=hd;have hV:Ba B w va vn p.vs:=h3.rows.vs h2;rw[hV.len] at z3;obtain⟨size,next,ex,vs,rf,lt⟩:=p;obtain⟨k,vol,file,tt,into,at0,fr,ln0,data⟩:=o;simp only at h1 h2 h3 h4 h5 hV z4 z3 hs hp hk ⊢;have _:=hB0;have _:=hNn;have _:=hBw;have _:=hp;have hI:vs.length=vn:=hV.len;have hK:rows.length=vn:=h2.sl.len;simp only at hso hfx hsr hfr hl hgt;subst hk;have hi:=ap_ hso;have hG:i<vn:=by omega
 have hx:vs[i]?=some vs[i]:=by simp[hi]
 have hN:(0:Int)<=(i:Int):=by omega
 have hH:(i:Int)<vn:=by omega
 have hr:rows[i]?=some (rows[i]'(by omega)):=by simp[hK,hG]
 have VT:=h3.at' i _ _ hr hx;generalize rows[i]'(by omega)=r0 at *;generalize vs[i]=x at *;obtain⟨rid,rnm,rfx,pa0,pn0,pc0⟩:=r0;obtain⟨e1,e2,e3,irows,RI,TI⟩:=VT;simp only at e1 e2 e3 RI;subst e1 e2 e3;obtain⟨vb,rfl,hY,hL,hM⟩:=h2.addr (by omega);have hf:=hfx _ hx;clear hfx;have hD:Ah ⟨size,next,ex,vs,rf,lt⟩ ⟨5,vol,file,tt,into,at0,fr,ln0,data⟩=(3,ex,[]):=by simp[Ah,hsr,hgt]
 have hS:Hid (Ap ⟨size,next,ex,vs,rf,lt⟩ ⟨5,vol,file,tt,into,at0,fr,ln0,data⟩=(3,⟨size,next,ex,vs,rf,lt⟩)):=by show _=_;simp[Ap,hso,hx,hf,hD]
 generalize hz:Ah ⟨size,next,ex,vs,rf,lt⟩ ⟨5,vol,file,tt,into,at0,fr,ln0,data⟩=PS at *;replace hz:Hid (Ah ⟨size,next,ex,vs,rf,lt⟩ ⟨5,vol,file,tt,into,at0,fr,ln0,data⟩=PS):=hz;generalize Ap ⟨size,next,ex,vs,rf,lt⟩ ⟨5,vol,file,tt,into,at0,fr,ln0,data⟩=R at *;have hE:Hid (x.fx=false):=hf;clear hf;go_enter func72,ntmps72
 go_wp2_with fail
 refine (ak_ B size next ea en ec (some ⟨vb,0,none⟩) vn vc ra rn rc la ln lc vs tt _ (hV.below (by go_grown)) z3).mono ?_;rintro e w1 ⟨rfl,hy⟩;obtain⟨C,O,D,hc,hT⟩:=bx3 hy;clear hy;rw[hso];simp only[Bo];obtain⟨c0,c1,c2,c3,c4,c5⟩:=C.six';obtain⟨o0,o1,o2,o3,o4,o5,o6,o7,o8⟩:=ce9 O;obtain⟨x0,x1,x2,x3,x4,x5⟩:=D.six';obtain⟨f0,f1,f2,f3,f4,f5⟩:=fz6 D;have RA:=h2.below hc;have e2:w1.cell? ⟨vb,i*4+2,none⟩=some (.bool x.fx):=RA.cellAt (j:=2) hr rfl;rw[hE.out] at e2
 go_wp2_with fail
 refine (aH_ B _ ⟨size,next,ex,vs,rf,lt⟩ tt into _ (hs.below hc) hB).mono ?_;rintro e wA ⟨ha,hg⟩;obtain⟨qa,qn,qc,rfl,hQ⟩:=ha.uni;clear ha;have hP:Ac ((Ar vs tt into).getD [])=true:=bH_ (p:=⟨size,next,ex,vs,rf,lt⟩) hp;simp only at hQ ⊢;clear c0 c1 c2 c3 c4 c5 o0 o1 o2 o3 o4 o5 o6 o7 o8 x0 x1 x2 x3 x4 x5 f0 f1 f2 f3 f4 f5;have C':=C.below hg;have D':=D.below hg;have O':=O.below hg;have hm:=Aa hc hg;have hU:=hg.size;clear C D O e2 RA;obtain⟨c0,c1,c2,c3,c4,c5⟩:=C'.six';obtain⟨o0,o1,o2,o3,o4,o5,o6,o7,o8⟩:=ce9 O';obtain⟨x0,x1,x2,x3,x4,x5⟩:=D'.six';obtain⟨f0,f1,f2,f3,f4,f5⟩:=fz6 D'
 go_wp2_with fail
 refine (aH_ B _ ⟨size,next,ex,vs,rf,lt⟩ vol file _ (hs.below hm) hB).mono ?_;rintro e wB ⟨ha,hh⟩;obtain⟨sa,sn,sc,rfl,hR⟩:=ha.uni;clear ha;simp only at hR ⊢;rw[hsr] at hR ⊢;simp only[Yw,Option.isSome_some] at hR ⊢;clear c0 c1 c2 c3 c4 c5 o0 o1 o2 o3 o4 o5 o6 o7 o8 x0 x1 x2 x3 x4 x5 f0 f1 f2 f3 f4 f5;have hv:=C'.below hh;have ho:=D'.below hh;have hw:=O'.below hh;have hq:=Aa hm hh;have hW:=hh.size;clear C' D' O';obtain⟨c0,c1,c2,c3,c4,c5⟩:=hv.six';obtain⟨o0,o1,o2,o3,o4,o5,o6,o7,o8⟩:=ce9 hw;obtain⟨x0,x1,x2,x3,x4,x5⟩:=ho.six';obtain⟨f0,f1,f2,f3,f4,f5⟩:=fz6 ho;have he:Ac q2=true:=(bb_ (p:=⟨size,next,ex,vs,rf,lt⟩) hp hsr).1;have hO:sn<=16:=by rw[<-hR.len];exact (ae_ he).1
 have ht:∀ k,0<=Af (q2.take k)∧Af (q2.take k)<=100:=fun k=>by have h1:=a6_ (ae_ he).2.1 k;have h2:=(ae_ he).2.2;omega
 have hZ:IntKind.i64.wrap (fr+ln0)=fr+ln0:=by rw[Ys];omega
 have hb:=fun (u:World) (hu:Below wB.heap.size wB u)=>aZ_ sa sn sc q2 u (hR.below hu) (by omega) ht
 go_wp2_with fail
 have g6:=Ae o6;have g7:=Ae o7;have hJ:=aA_ wB;refine ab_ (by kernel_rfl) (by kernel_rfl) ?_
 repeat (go_big_quiet_step (first | (go_at_call 122;exact am_ (hb _ (Grw.h _)))))
 refine wpQuiet_nil ?_;intro wC hC;have hj:=ah_ hC;clear hC g6 g7 hJ hb;have C3:=hv.below hj;have D3:=ho.below hj;have O3:=hw.below hj;have hn:=Aa hq hj;have hX:=hj.size;clear c0 c1 c2 c3 c4 c5 o0 o1 o2 o3 o4 o5 o6 o7 o8 x0 x1 x2 x3 x4 x5 f0 f1 f2 f3 f4 f5;obtain⟨c0,c1,c2,c3,c4,c5⟩:=C3.six';obtain⟨o0,o1,o2,o3,o4,o5,o6,o7,o8⟩:=ce9 O3;obtain⟨x0,x1,x2,x3,x4,x5⟩:=D3.six';obtain⟨f0,f1,f2,f3,f4,f5⟩:=fz6 D3;go_wp2;obtain⟨W8,hA,W0,hF⟩:=AU D3 (.int .i64 size) (.int .i64 next) (.slice ea en ec) (.slice (some ⟨vb,0,none⟩) vn vc) (.slice ra rn rc) (.slice la ln lc);have B8:=hn.grown hF hn.size (fun j e=>by cases e;omega);rw[<-hA];clear hA;refine YW (ad_ rfl _ W8 (w.heap.size+2) _ _ _ _ _ rfl W0 underlying28 rfl (by kernel_rfl) rfl) rfl ?_;exact⟨⟨_,3,rfl,bm_ _ _ _ _ _ _ _ _ _ _ _ _ _ _,by rw[hS.out],fun h=>absurd h (by omega)⟩,B8.mono hBw,FrV.of B8⟩
theorem gv_ (B:Nat)(hB0:0<B)(v:Value)(p:Po)(o:Opr)(w:World)(h:Al B w v p)(hNn:NnE v)(hBw:B<=w.heap.size)(hd:AB p)(hp:Ai p=true)(hk:o.k=5)(i:Nat)(hso:volI p.vs o.to=some i)(hfx:∀ x:Vo,p.vs[i]?=some x->x.fx=false)(q2:List Pt)(hsr:Ar p.vs o.vol o.file=some q2)(hfr:0<=o.fr∧o.fr<=100)(hl:1<=o.ln∧o.ln<=100)(ha:0<=o.at'∧o.at'<=100)(hgt:¬ Af q2<o.fr+o.ln)(hok2:Ac (Ak [] (slp o.fr (o.fr+o.ln) 0 q2))=true):
  Calls prog 72 #[v,.agg #[.int .i64 o.k,.string o.vol,.string o.file,.string o.to,.string o.into,.int .i64 o.at',.int .i64 o.fr,.int .i64 o.ln,.string o.data]] w fun e w'=>(∃ v' c,e=.returned (.tuple #[v',.int .i64 c])∧Bg v'∧c=(Ap p o).1∧(c=0->Al B w' v' (Ap p o).2∧(Ah p o).2.2.length<=1000))∧Below B w w'∧FrV w w':=by
 have hI:=h.at';obtain⟨ea,en,ec,va,vn,vc,ra,rn,rc,la,ln,lc,rows,rfl,h1,⟨h2,h3⟩,h4,h5,h6⟩:=h;have hW:=hd;obtain⟨z1,z2,z3,z4,z5,z6,z7,z8⟩:=hd;have hV:Ba B w va vn p.vs:=h3.rows.vs h2;rw[hV.len] at z3;obtain⟨size,next,ex,vs,rf,lt⟩:=p;obtain⟨k,vol,file,tt,into,at0,fr,ln0,data⟩:=o;simp only at h1 h2 h3 h4 h5 hV z4 z3 hI hp hk ⊢;have _:=hB0;have _:=hNn;have _:=hBw;have _:=hp;have qe:vs.length=vn:=hV.len;have qh:rows.length=vn:=h2.sl.len;simp only at hso hfx hsr hfr hl ha hgt hok2;subst hk;have hi:=ap_ hso;have h9:i<vn:=by omega
 have hx:vs[i]?=some vs[i]:=by simp[hi]
 have qm:(0:Int)<=(i:Int):=by omega
 have qb:(i:Int)<vn:=by omega
 have hr:rows[i]?=some (rows[i]'(by omega)):=by simp[qh,h9]
 have VT:=h3.at' i _ _ hr hx;generalize rows[i]'(by omega)=r0 at *;generalize vs[i]=x at *;obtain⟨rid,rnm,rfx,pa0,pn0,pc0⟩:=r0;obtain⟨e1,e2,e3,irows,RI,TI⟩:=VT;simp only at e1 e2 e3 RI;subst e1 e2 e3;obtain⟨vb,rfl,qi,qj,qk⟩:=h2.addr (by omega);have hf:=hfx _ hx;clear hfx;have h0:Ah ⟨size,next,ex,vs,rf,lt⟩ ⟨5,vol,file,tt,into,at0,fr,ln0,data⟩=(0,ex,AH ((Ar vs tt into).getD []) at0 (Ak [] (slp fr (fr+ln0) 0 q2))):=by simp[Ah,hsr,hgt]
 have hS:Hid (Ap ⟨size,next,ex,vs,rf,lt⟩ ⟨5,vol,file,tt,into,at0,fr,ln0,data⟩=(0,⟨size,next,ex,vs.set i ⟨x.id,x.nm,x.fx,A9 ⟨into,AH ((Ar vs tt into).getD []) at0 (Ak [] (slp fr (fr+ln0) 0 q2))⟩ x.its⟩,rf,lt⟩)):=by show _=_;simp[Ap,hso,hx,hf,h0]
 generalize hP:Ah ⟨size,next,ex,vs,rf,lt⟩ ⟨5,vol,file,tt,into,at0,fr,ln0,data⟩=PS at *;replace hP:Hid (Ah ⟨size,next,ex,vs,rf,lt⟩ ⟨5,vol,file,tt,into,at0,fr,ln0,data⟩=PS):=hP;generalize Ap ⟨size,next,ex,vs,rf,lt⟩ ⟨5,vol,file,tt,into,at0,fr,ln0,data⟩=R at *;have h8:Hid (x.fx=false):=hf;clear hf;go_enter func72,ntmps72
 go_wp2_with fail
 refine (ak_ B size next ea en ec (some ⟨vb,0,none⟩) vn vc ra rn rc la ln lc vs tt _ (hV.below (by go_grown)) z3).mono ?_;rintro e w1 ⟨rfl,hO⟩;obtain⟨C,O,D,ht,qp⟩:=bx3 hO;clear hO;rw[hso];simp only[Bo];obtain⟨c0,c1,c2,c3,c4,c5⟩:=C.six';obtain⟨o0,o1,o2,o3,o4,o5,o6,o7,o8⟩:=ce9 O;obtain⟨x0,x1,x2,x3,x4,x5⟩:=D.six';obtain⟨f0,f1,f2,f3,f4,f5⟩:=fz6 D;have RA:=h2.below ht;have e2:w1.cell? ⟨vb,i*4+2,none⟩=some (.bool x.fx):=RA.cellAt (j:=2) hr rfl;rw[h8.out] at e2
 go_wp2_with fail
 refine (aH_ B _ ⟨size,next,ex,vs,rf,lt⟩ tt into _ (hI.below ht) hW).mono ?_;rintro e wA ⟨hj,hw⟩;obtain⟨qa,qn,qc,rfl,hQ⟩:=hj.uni;clear hj;have qg:Ac ((Ar vs tt into).getD [])=true:=bH_ (p:=⟨size,next,ex,vs,rf,lt⟩) hp;simp only at hQ ⊢;clear c0 c1 c2 c3 c4 c5 o0 o1 o2 o3 o4 o5 o6 o7 o8 x0 x1 x2 x3 x4 x5 f0 f1 f2 f3 f4 f5;have C':=C.below hw;have D':=D.below hw;have O':=O.below hw;have hy:=Aa ht hw;have qs:=hw.size;clear C D O e2 RA;obtain⟨c0,c1,c2,c3,c4,c5⟩:=C'.six';obtain⟨o0,o1,o2,o3,o4,o5,o6,o7,o8⟩:=ce9 O';obtain⟨x0,x1,x2,x3,x4,x5⟩:=D'.six';obtain⟨f0,f1,f2,f3,f4,f5⟩:=fz6 D';generalize (Ar vs tt into).getD []=Q at *
 go_wp2_with fail
 refine (aH_ B _ ⟨size,next,ex,vs,rf,lt⟩ vol file _ (hI.below hy) hW).mono ?_;rintro e wB ⟨hj,hv⟩;obtain⟨sa,sn,sc,rfl,hR⟩:=hj.uni;clear hj;simp only at hR ⊢;rw[hsr] at hR ⊢;simp only[Yw,Option.isSome_some] at hR ⊢;clear c0 c1 c2 c3 c4 c5 o0 o1 o2 o3 o4 o5 o6 o7 o8 x0 x1 x2 x3 x4 x5 f0 f1 f2 f3 f4 f5;have hM:=C'.below hv;have hC:=D'.below hv;have hN:=O'.below hv;have hG:=Aa hy hv;have qt:=hv.size;clear C' D' O';obtain⟨c0,c1,c2,c3,c4,c5⟩:=hM.six';obtain⟨o0,o1,o2,o3,o4,o5,o6,o7,o8⟩:=ce9 hN;obtain⟨x0,x1,x2,x3,x4,x5⟩:=hC.six';obtain⟨f0,f1,f2,f3,f4,f5⟩:=fz6 hC;have hn:Ac q2=true:=(bb_ (p:=⟨size,next,ex,vs,rf,lt⟩) hp hsr).1;have qf:sn<=16:=by rw[<-hR.len];exact (ae_ hn).1
 have hL:∀ k,0<=Af (q2.take k)∧Af (q2.take k)<=100:=fun k=>by have h1:=a6_ (ae_ hn).2.1 k;have h2:=(ae_ hn).2.2;omega
 have qx:IntKind.i64.wrap (fr+ln0)=fr+ln0:=by rw[Ys];omega
 have hq:=fun (u:World) (hu:Below wB.heap.size wB u)=>aZ_ sa sn sc q2 u (hR.below hu) (by omega) hL
 go_wp2_with fail
 have g6:=Ae o6;have g7:=Ae o7;have hz:=aA_ wB;refine ab_ (by kernel_rfl) (by kernel_rfl) ?_
 repeat (go_big_quiet_step (first | (go_at_call 122;exact am_ (hq _ (Grw.h _)))))
 refine wpQuiet_nil ?_;intro wC hX;have hs:=ah_ hX;clear hX g6 g7 hz hq;have C3:=hM.below hs;have D3:=hC.below hs;have O3:=hN.below hs;have hH:=Aa hG hs;have qu:=hs.size;clear c0 c1 c2 c3 c4 c5 o0 o1 o2 o3 o4 o5 o6 o7 o8 x0 x1 x2 x3 x4 x5 f0 f1 f2 f3 f4 f5;have o5:wC.cell? ⟨w.heap.size+1,5,none⟩=some (.int .i64 at0):=O3.cell 5;have o6:wC.cell? ⟨w.heap.size+1,6,none⟩=some (.int .i64 fr):=O3.cell 6;have o7:wC.cell? ⟨w.heap.size+1,7,none⟩=some (.int .i64 ln0):=O3.cell 7
 go_wp2_with fail
 have ho:∀ u,Below wC.heap.size wC u->(fun u=>u.cell? ⟨w.heap.size+1,5,none⟩=some (.int .i64 at0)∧u.cell? ⟨w.heap.size+1,6,none⟩=some (.int .i64 fr)∧u.cell? ⟨w.heap.size+1,7,none⟩=some (.int .i64 ln0)) u:=fun u hu=>⟨Ab hu o5,Ab hu o6,Ab hu o7⟩;have hT:=ho wC.drew ((Yg _ _).drew);refine ar_ (S:=(fun u=>u.cell? ⟨w.heap.size+1,5,none⟩=some (.int .i64 at0)∧u.cell? ⟨w.heap.size+1,6,none⟩=some (.int .i64 fr)∧u.cell? ⟨w.heap.size+1,7,none⟩=some (.int .i64 ln0))) 13 (by kernel_rfl) (by kernel_rfl) ?_;refine tk 0 ?_;refine tk 1 ?_;refine tk 2 ?_;refine tk 3 ?_;refine tk 4 ?_;refine tk 5 ?_;refine tk 6 ?_;refine tk 7 ?_;refine tk 8 ?_;refine tk 9 ?_;refine tk 10 ?_;refine AW (i:=11) (by kernel_rfl) rfl (fun K hK=>?_);go_simp;refine (ba_ sa sn sc q2 fr (fr+ln0) _ ((hR.below hs).below ((Yg _ _).drew)) qf (hq_ hn) hfr.1 (by omega) (by omega) (by omega)).mono ?_;rintro e wD ⟨⟨da,dn,dc,rfl,ql,RD⟩,hF⟩;have hA:Below wC.heap.size wC wD:=Aa ((Yg _ _).drew) hF;have qv:=hA.size;dsimp only;refine hK.out _ _ (ho _ hA) (fun hHeld=>?_);clear hK K
 try simp only[Act.put,lsA,lsB,lsC]
 refine AW (i:=12) (by kernel_rfl) rfl (fun K hK=>?_);go_simp;refine (cM_ qa qn qc Q at0 da dn dc (Ak [] (slp fr (fr+ln0) 0 q2)) _ (((hQ.below hv).below hs).below hA) RD.sl qg hok2 ha.1 ha.2).mono ?_;rintro e wL ⟨⟨pa1,pn1,pc1,rfl,qo,Rp⟩,hZ⟩;have hB:Below wC.heap.size wC wL:=Aa hA hZ;dsimp only;refine hK.out _ _ (ho _ hB) (fun hHeld=>?_);clear hK K
 try simp only[Act.put,lsA,lsB,lsC]
 refine wpAnyH_done (by kernel_rfl) ?_ _;refine BI rfl ?_;have CL:=C3.below hB;have DL:=D3.below hB;have hc:=Aa hH hB;have h7:B<=wD.heap.size:=by omega
 clear o5 o6 o7 ho hT hHeld;have RL:=h2.below hc;have e0:wL.cell? ⟨vb,i*4,none⟩=some (.int .i64 x.id):=RL.cellAt (j:=0) hr rfl;have e1:wL.cell? ⟨vb,i*4+1,none⟩=some (.string x.nm):=RL.cellAt (j:=1) hr rfl;have e2:wL.cell? ⟨vb,i*4+2,none⟩=some (.bool x.fx):=RL.cellAt (j:=2) hr rfl;have e3:wL.cell? ⟨vb,i*4+3,none⟩=some (.slice pa0 pn0 pc0):=RL.cellAt (j:=3) hr rfl;have k3:wL.cell? ⟨w.heap.size,3,none⟩=some (.slice (some ⟨vb,0,none⟩) vn vc):=CL.cell 3;have qw:=hc.size;have qd:pn0<=4194304:=by have:=(z4 x (Zc hx)).2.1;rw[(TI.rows.its RI).len] at this;exact this
 go_wp2_with fail
 have ho:∀ u,Below wL.heap.size wL u->(fun u=>u.cell? ⟨w.heap.size,3,none⟩=some (.slice (some ⟨vb,0,none⟩) vn vc)∧u.cell? ⟨vb,i*4,none⟩=some (.int .i64 x.id)∧u.cell? ⟨vb,i*4+1,none⟩=some (.string x.nm)∧u.cell? ⟨vb,i*4+2,none⟩=some (.bool x.fx)∧u.cell? ⟨vb,i*4+3,none⟩=some (.slice pa0 pn0 pc0)) u:=fun u hu=>⟨Ab hu k3,Ab hu e0,Ab hu e1,Ab hu e2,Ab hu e3⟩;have hT:=ho wL.drew ((Yg _ _).drew);refine ar_ (S:=(fun u=>u.cell? ⟨w.heap.size,3,none⟩=some (.slice (some ⟨vb,0,none⟩) vn vc)∧u.cell? ⟨vb,i*4,none⟩=some (.int .i64 x.id)∧u.cell? ⟨vb,i*4+1,none⟩=some (.string x.nm)∧u.cell? ⟨vb,i*4+2,none⟩=some (.bool x.fx)∧u.cell? ⟨vb,i*4+3,none⟩=some (.slice pa0 pn0 pc0))) 12 (by kernel_rfl) (by kernel_rfl) ?_;refine tk 0 ?_;refine tk 1 ?_;refine tk 2 ?_;refine tk 3 ?_;refine tk 4 ?_;refine tk 5 ?_;refine tk 6 ?_;refine tk 7 ?_;refine tk 8 ?_;refine tk 9 ?_;refine AW (i:=10) (by kernel_rfl) rfl (fun K hK=>?_);go_simp;refine (cB_ B x.id x.nm x.fx x.its pa0 pn0 pc0 irows into pa1 pn1 pc1 (AH Q at0 (Ak [] (slp fr (fr+ln0) 0 q2))) _ ((RI.below hc).below ((Yg _ _).drew)) ((TI.below hc).below ((Yg _ _).drew)) ((Rp.mono h7).below ((Yg _ _).drew)) qd).mono ?_;rintro e w5 ⟨⟨a2,n2,cap2,nrows,rfl,RN,TN⟩,hE⟩;have hg:Below wL.heap.size wL w5:=Aa ((Yg _ _).drew) hE;have qr:=hg.size;dsimp only;refine hK.out _ _ (ho _ hg) (fun hHeld=>?_);clear hK K
 try simp only[Act.put,lsA,lsB,lsC]
 refine tk 11 ?_;refine wpAnyH_done (by kernel_rfl) ?_ _;refine BI rfl ?_;have hh:=Aa hc hg;have hD:=RL.below hg;obtain⟨vcs,VB⟩:=hD.blkAt;have z0:=VB.frozen (i*4);have z1':=VB.frozen (i*4+1);have z2':=VB.frozen (i*4+2);have z3':=VB.frozen (i*4+3);have v0:=Ab hg e0;have v1:=Ab hg e1;have v2:=Ab hg e2;have v3:=Ab hg e3;have he:=DW w5 vb (i*4) (.int .i64 x.id) (.string x.nm) (.bool x.fx) (.slice a2 n2 cap2);have hm:By w5 (some vb) 38:=aa_ VB;have R1:=hD.set4V hr ⟨x.id,x.nm,x.fx,a2,n2,cap2⟩;simp only at R1;have T1:=((h3.below hh).ty he hm (by decide) (by decide)).set i (show Bd B _ ⟨x.id,x.nm,x.fx,a2,n2,cap2⟩ ⟨x.id,x.nm,x.fx,A9 ⟨into,(AH Q at0 (Ak [] (slp fr (fr+ln0) 0 q2)))⟩ x.its⟩ from ⟨rfl,rfl,rfl,nrows,(RN.ty he hm (by decide)).mono (by simp only[World.size_drew] at *;omega),TN.ty he hm (by decide)⟩);have C2:=(CL.below hg).ty he hm (by decide);have D2:=(DL.below hg).ty he hm (by decide);have P2:Al B ((((w5.setCell ⟨vb,i*4,none⟩ (.int .i64 x.id)).setCell ⟨vb,i*4+1,none⟩ (.string x.nm)).setCell ⟨vb,i*4+2,none⟩ (.bool x.fx)).setCell ⟨vb,i*4+3,none⟩ (.slice a2 n2 cap2)) (.agg #[.int .i64 size,.int .i64 next,.slice ea en ec,.slice (some ⟨vb,0,none⟩) vn vc,.slice ra rn rc,.slice la ln lc]) ⟨size,next,ex,vs.set i ⟨x.id,x.nm,x.fx,A9 ⟨into,AH Q at0 (Ak [] (slp fr (fr+ln0) 0 q2))⟩ x.its⟩,rf,lt⟩:=⟨ea,en,ec,some ⟨vb,0,none⟩,vn,vc,ra,rn,rc,la,ln,lc,_,rfl,((h1.below hc).below hg).ty he hm (by decide),⟨R1,T1⟩,(h4.below hh).ty he hm (by decide),(h5.below hh).ty he hm (by decide),h6⟩;obtain⟨y0,y1,y2,y3,y4,y5⟩:=C2.six';obtain⟨q0,q1,q2,q3,q4,q5⟩:=D2.six';obtain⟨m0,m1,m2,m3,m4,m5⟩:=fz6 D2;have hY:=(hh.mono hBw).grown he (by omega) (fun j e=>by cases e;exact qi);have qq:=he.size;have FT0:Hid (FrV w ((((w5.setCell ⟨vb,i*4,none⟩ (.int .i64 x.id)).setCell ⟨vb,i*4+1,none⟩ (.string x.nm)).setCell ⟨vb,i*4+2,none⟩ (.bool x.fx)).setCell ⟨vb,i*4+3,none⟩ (.slice a2 n2 cap2))):=fun k c t hb hz=>(hb.below hh).ty he hm hz;clear R1 T1 he hD VB hm ho;go_wp2;obtain⟨W8,hU,W0,hJ⟩:=AU D2 (.int .i64 size) (.int .i64 next) (.slice ea en ec) (.slice (some ⟨vb,0,none⟩) vn vc) (.slice ra rn rc) (.slice la ln lc);have PF:=P2.tyP hJ (aa_ D2);have B8:=hY.grown hJ (by omega) (fun j e=>by cases e;omega);have FT:=fun (k:Nat) (c:Array Value) (t:TypeId) (hb:Blk w k c t) (hz:t≠38)=>(FT0.out k c t hb hz).offB hJ (B:=w.heap.size) (fun j e=>by cases e;omega) hb.lt;rw[<-hU];clear hU;refine YW (ad_ rfl _ W8 (w.heap.size+2) _ _ _ _ _ rfl W0 underlying28 rfl (by kernel_rfl) rfl) rfl ?_;exact⟨⟨_,0,rfl,bm_ _ _ _ _ _ _ _ _ _ _ _ _ _ _,by rw[hS.out],fun _=>⟨by rw[hS.out];exact PF,by exact Zl (Zm Rp.sl.len) (by omega)⟩⟩,B8,FT⟩
theorem mU_ {fr to:Int}:∀ {l:List Pt} {st:Int},(slp fr to st l).length<=l.length
 |[],_=>Zd _
 |p::r,st=>by
  have:=mU_ (fr:=fr) (to:=to) (l:=r) (st:=st+p.n)
  unfold slp;split
  ·simp only[Zw];omega
  ·simp only[Zw];omega
theorem h1_:∀ {m l:List Pt},(Ak l m).length<=l.length+m.length
 |[],l=>Zd _
 |p::r,l=>by
  have h1:=h1_ (m:=r) (l:=AI l p);have h2:=fL_ l p;show (Ak (AI l p) r).length<=_;simp only[Zw];omega
theorem nG_ {q:List Pt}(h:Ac q=true)(fr to:Int):Ac (Ak [] (slp fr to 0 q))=true:=by
 have ha:=(ae_ h).1;have hl:=mU_ (fr:=fr) (to:=to) (l:=q) (st:=0)
 have hm:Ac (slp fr to 0 q)=true:=by
  unfold Ac;rw[b8_ h fr to];simp;omega
 rw[iw_ (l:=[]) rfl hm];have hs:=(ae_ hm).2.2;have hj:=h1_ (m:=slp fr to 0 q) (l:=[]);simp only[YK] at hj;simp[Af];omega
theorem gN_ (B:Nat)(hB0:0<B)(v:Value)(p:Po)(o:Opr)(w:World)(h:Al B w v p)(hNn:NnE v)(hBw:B<=w.heap.size)(hd:AB p)(hp:Ai p=true)(hop:opB o=true)(hk:o.k=2∨o.k=3∨o.k=5∨o.k=10):
  Calls prog 72 #[v,.agg #[.int .i64 o.k,.string o.vol,.string o.file,.string o.to,.string o.into,.int .i64 o.at',.int .i64 o.fr,.int .i64 o.ln,.string o.data]] w fun e w'=>(∃ v' c,e=.returned (.tuple #[v',.int .i64 c])∧Bg v'∧c=(Ap p o).1∧(c=0->Al B w' v' (Ap p o).2∧(Ah p o).2.2.length<=1000))∧Below B w w'∧FrV w w':=by
 by_cases h5:o.k=5
 ·have hb:=hop;simp[opB,h5,inB] at hb
  cases ha:volI p.vs o.to with
  |none=>exact f3_ B hB0 v p o w h hNn hBw hd hp h5 ha
  |some i=>
   have hx:p.vs[i]?=some (p.vs[i]'(ap_ ha)):=by simp[ap_ ha]
   cases hf:(p.vs[i]'(ap_ ha)).fx with
   |true=>exact fC_ B hB0 v p o w h hNn hBw hd hp h5 i ha (fun x e=>by rw[hx] at e;cases e;exact hf)
   |false=>
    have hc:∀ x:Vo,p.vs[i]?=some x->x.fx=false:=fun x e=>by rw[hx] at e;cases e;exact hf
    cases hs:Ar p.vs o.vol o.file with
    |none=>exact eH_ B hB0 v p o w h hNn hBw hd hp h5 i ha hc hs
    |some q=>
     by_cases hg:Af q<o.fr+o.ln
     ·exact fa_ B hB0 v p o w h hNn hBw hd hp h5 i ha hc q hs (by omega) (by omega) hg
     ·exact gv_ B hB0 v p o w h hNn hBw hd hp h5 i ha hc q hs (by omega) (by omega) (by omega) hg (nG_ (bb_ hp hs).1 _ _)
 ·cases ha:volI p.vs o.vol with
  |none=>exact gt_ B hB0 v p o w h hNn hBw hd hp h5 ha
  |some i=>
   have hx:p.vs[i]?=some (p.vs[i]'(ap_ ha)):=by simp[ap_ ha]
   cases hf:(p.vs[i]'(ap_ ha)).fx with
   |true=>exact f2_ B hB0 v p o w h hNn hBw hd hp h5 i ha (fun x e=>by rw[hx] at e;cases e;exact hf)
   |false=>
    have hc:∀ x:Vo,p.vs[i]?=some x->x.fx=false:=fun x e=>by rw[hx] at e;cases e;exact hf
    rcases hk with h1 | h1 | h1 | h1
    ·have hb:=hop;simp[opB,h1,inB] at hb
     cases he:AV p.size p.ex o.data with
     |none=>exact gu_ B hB0 v p o w h hNn hBw hd hp h1 i ha hc (by simp[hb]) he
     |some La=>
      obtain⟨L,a⟩:=La;exact f7_ B hB0 v p o w h hNn hBw hd hp h1 i ha hc (by simp[hb]) (by omega) L a (gw_ he) he
    ·have hb:=hop;simp[opB,h1,inB] at hb
     cases hs:Ar p.vs o.vol o.file with
     |none=>exact e9_ B hB0 v p o w h hNn hBw hd hp h1 i ha hc hs
     |some q=>
      by_cases hg:Af q<o.ln
      ·exact e7_ B hB0 v p o w h hNn hBw hd hp h1 i ha hc q hs (by omega) hg
      ·exact e8_ B hB0 v p o w h hNn hBw hd hp h1 i ha hc q hs (by omega) hg
    ·exact absurd h1 h5
    ·have hb:=hop;simp[opB,h1,inB] at hb
     cases hs:Ar p.vs o.vol o.file with
     |none=>exact ei_ B hB0 v p o w h hNn hBw hd hp h1 i ha hc hs
     |some q=>exact f6_ B hB0 v p o w h hNn hBw hd hp h1 i ha hc q hs (by omega) (by omega)
end
section
open Go Go.RowKit
variable{l:List Vo}{o:Opr}{p:Po}
def WS (l:List Vo):Prop:=Ep l∧DB l
def Id (x:It):Prop:=x.nm.size<=9223372036854775807∧x.ps.length<=1000∧CO x.ps
def G2 (v:Vo):Prop:=v.nm.size<=9223372036854775807∧v.its.length<=6∧∀ x∈v.its,Id x
theorem iY_ (h7:l.length<=7)(h:∀ v∈l,G2 v):WS l:=
 ⟨⟨h7,fun v hv=>⟨(h v hv).2.1,fun x hx=>⟨((h v hv).2.2 x hx).2.1,((h v hv).2.2 x hx).2.2⟩⟩⟩,fun v hv=>⟨(h v hv).1,by have:=(h v hv).2.1;omega,fun x hx=>⟨((h v hv).2.2 x hx).1,by have:=((h v hv).2.2 x hx).2.1;omega⟩⟩⟩
theorem mW_ (h:DO l)(hs:DB l):∀ v∈l,G2 v∧v.its.length<=5:=fun v hv=>
 ⟨⟨(hs v hv).1,by have:=(h.2 v hv).1;omega,fun x hx=>⟨((hs v hv).2.2 x hx).1,by have:=((h.2 v hv).2 x hx).1;omega,((h.2 v hv).2 x hx).2⟩⟩,(h.2 v hv).1⟩
theorem oN_ (hp:Ai p=true):CO (Ah p o).2.2:=by
 have hq:∀ {vol file:ByteArray},CO ((Ar p.vs vol file).getD []):=fun {vol file}=>on_ (bH_ hp);unfold Ah;simp only;split
 ·split
  ·exact dD_
  ·rename_i l a hpl;refine fS_ hq (fun q ha=>?_);simp at ha;subst ha
   have:=gw_ hpl
   simp only;omega
 ·split
  ·split
   ·exact dD_
   ·rename_i src hs;split
    ·exact dD_
    ·exact fS_ hq (cg_ dD_ (gk_ (on_ (bb_ hp hs).1)))
  ·split
   ·exact dD_
   ·rename_i q hs;have hn:CO q:=on_ (bb_ hp hs).1;split
    ·exact fS_ hn (fun q ha=>by simp at ha;subst ha;exact YB _)
    ·split
     ·exact fS_ hn (fun q ha=>by simp at ha;subst ha;exact YB _)
     ·exact cg_ dD_ (gk_ hn)
theorem pM_ (hp:Ai p=true)(hd:AB p)(hf:o.file.size<=9223372036854775807)(hi:o.into.size<=9223372036854775807)(hl:(Ah p o).2.2.length<=1000):WS (Ap p o).2.vs:=by
 obtain⟨_,_,ht,_⟩:=aQ_ hp;have hv:=mW_ ht hd.2.2.2.1;have ha:WS p.vs:=iY_ (by have:=ht.1;omega) (fun v h=>(hv v h).1);unfold Ap;simp only;split
 ·exact ha
 ·split
  ·exact ha
  ·rename_i i _ v hvi;split
   ·exact ha
   ·split
    ·refine iY_ (by rw[List.length_set];have:=ht.1;omega) (fun u hu=>?_);rcases List.mem_or_eq_of_mem_set hu with hu | rfl
     ·exact (hv u hu).1
     ·have hb:=hv v (Zc hvi);refine⟨hb.1.1,?_,fun x hx=>?_⟩
      ·have:=kw_ ⟨if o.k=5 then o.into else o.file,(Ah p o).2.2⟩ v.its
       simp only;omega
      ·rcases kx_ hx with rfl | hx
       ·refine⟨?_,hl,oN_ hp⟩;simp only;split<;>assumption
       ·exact hb.1.2.2 x hx
    ·exact ha
theorem qc_ (hp:Ai p=true)(hd:AB p)(hv0:o.vol.size<=9223372036854775807)(ht0:o.to.size<=9223372036854775807):WS (Ay p o).2.vs:=by
 obtain⟨_,_,ht,_⟩:=aQ_ hp;have hv:=mW_ ht hd.2.2.2.1;have h6:=ht.1;have ha:WS p.vs:=iY_ (by omega) (fun v h=>(hv v h).1)
 have he:∀ (i:Nat) (y:Vo),G2 y->WS (p.vs.set i y):=fun i y hy=>iY_ (by rw[List.length_set];omega) (fun u hu=>by
  rcases List.mem_or_eq_of_mem_set hu with hu | rfl
  ·exact (hv u hu).1
  ·exact hy)
 have hc:∀ y:Vo,G2 y->WS (p.vs++[y]):=fun y hy=>iY_ (by simp;omega) (fun u hu=>by
  rcases Zs.1 hu with hu | hu
  ·exact (hv u hu).1
  ·simp at hu;subst hu;exact hy)
 unfold Ay;split
 ·split
  ·exact hc _ ⟨hv0,by simp,fun x hx=>by cases hx⟩
  ·exact ha
 ·split
  ·exact ha
  ·rename_i i _ v hvi;have hb:=(hv v (Zc hvi)).1;split
   ·exact ha
   ·split
    ·split
     ·exact ha
     ·exact hc _ ⟨ht0,hb.2.1,hb.2.2⟩
    ·split
     ·refine iY_ (by simp;omega) (fun u hu=>?_);rcases Zs.1 hu with hu | hu
      ·exact (hv u (ZX hu)).1
      ·exact (hv u (List.mem_of_mem_drop hu)).1
     ·split
      ·split
       ·exact ha
       ·exact he _ _ ⟨hb.1,hb.2.1,hb.2.2⟩
      ·split
       ·split
        ·exact ha
        ·split
         ·exact ha
         ·refine he _ _ ⟨hb.1,?_,fun x hx=>?_⟩
          ·have:=hb.2.1
           simp only[ZE,Zz,List.length_drop];omega
          ·rcases Zs.1 hx with hx | hx
           ·exact hb.2.2 x (ZX hx)
           ·exact hb.2.2 x (List.mem_of_mem_drop hx)
       ·exact ha
end
end Go.Proofs.YtdmeabghpchckaaGreatDoor
