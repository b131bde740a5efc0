/- An op carried out upon a right pool. -/
import Derived.Stop.Asserts
import Derived.Test.YtdmeabghpchckaaGreatDoorU37
set_option maxHeartbeats 20000000
set_option maxRecDepth 100000
namespace Go.Proofs.YtdmeabghpchckaaGreatDoor
section
open Go Go.RowKit Go.BigFrame Tryz
variable{B:Nat}{a:Option Addr}{p:Po}{v:Value}{w w':World}
structure F8 (S:Addr->Prop)(ep:Addr)(w:World):Prop where
 s:BO S w
 pool:BC w 0 ep
 ne:∀ a,S a->a≠ep
 blk:∃ c t,w.heap[ep.block]?=some (.cells c t (0,0))
 blks:∀ a,S a->∃ c t,w.heap[a.block]?=some (.cells c t (0,0))
 ty:w.cell? ⟨3,0,none⟩=some (.iface 188 (.agg #[.pointer (some ⟨11,58,none⟩)]))
theorem F8.below {S:Addr->Prop}{ep:Addr}(h:F8 S ep w)(hb:Below w.heap.size w w'):F8 S ep w':=by
 refine⟨h.s.below hb,h.pool.below hb,h.ne,?_,fun a ha=>?_,Ab hb h.ty⟩
 ·obtain⟨c,t,hc⟩:=h.blk;exact⟨c,t,(hb.block _ (ZG.1 hc).1).trans hc⟩
 ·obtain⟨c,t,hc⟩:=h.blks a ha;exact⟨c,t,(hb.block _ (ZG.1 hc).1).trans hc⟩
def Dc (B:Nat)(w:World)(v:Value)(p:Po):Prop:=∃ rows,BG B w v p rows
theorem Dc.below (h:Dc B w v p)(hb:Below w.heap.size w w'):Dc B w' v p:=by
 obtain⟨rows,h⟩:=h;exact⟨rows,h.below hb⟩
theorem Dc.mono {B':Nat}(h:Dc B w v p)(hb:B'<=B):Dc B' w v p:=by
 obtain⟨rows,h⟩:=h;exact⟨rows,h.mono hb⟩
end
section
open Go Go.RowKit Go.BigFrame Tryz
variable{L:List Nat}{b:Nat}{a:Option Addr}{v:Value}{w w':World}
structure Chg (L:List Nat)(w w':World):Prop where
 os:w'.os=w.os
 tape:w'.tape=w.tape
 output:w'.output=w.output
 size:w.heap.size<=w'.heap.size
 block:∀ k,k<w.heap.size->k∉L->w'.heap[k]?=w.heap[k]?
theorem Chg.mono {L':List Nat}(h:Chg L w w')(hL:∀ k∈L,k∈L'):Chg L' w w':=⟨h.os,h.tape,h.output,h.size,fun k hk hn=>h.block k hk (fun e=>hn (hL k e))⟩
theorem Chg.cell (h:Chg L w w'){o:Nat}(hc:w.cell? ⟨b,o,none⟩=some v)(hb:b∉L):w'.cell? ⟨b,o,none⟩=some v:=by
 have hl:b<w.heap.size:=Yk w ⟨b,o,none⟩ hc;unfold World.cell? at hc ⊢;simp only at hc ⊢;rw[h.block b hl hb];exact hc
theorem Chg.trans {a b c:World}(h:Chg L a b)(h':Chg L b c):Chg L a c:=⟨h'.os.trans h.os,h'.tape.trans h.tape,h'.output.trans h.output,Zl h.size h'.size,fun k hk hn=>(h'.block k (Zy hk h.size) hn).trans (h.block k hk hn)⟩
end
section
open Go.RowKit Go.Extern.Stop Go.Stop Go.Extern Tryz
def hnd (t:Nat):Value:=.pointer (some ⟨11,t,none⟩)
end
section
open Go Go.RowKit Go.BigFrame Tryz
variable{L:List Nat}{w:World}
theorem Chg.refl (L:List Nat)(w:World):Chg L w w:=⟨rfl,rfl,rfl,Zd _,fun _ _ _=>rfl⟩
end
section
open Go Go.RowKit Go.BigFrame Tryz
theorem nT_ (S:Addr->Prop)(B0:Nat)(hB0:0<B0)(v:Value)(p:Po)(o:Opr)(w:World)(h:AF B0 w v p)(hd:AB p)(hp:Ai p=true)(ho:opB o=true)(hso:BA o)(hS:BO S w)(hgl:11<=w.heap.size):
  Calls prog 20 #[v,.agg #[.int .i64 o.k,.string o.vol,.string o.file,.string o.to,.string o.into,.int .i64 o.at',.int .i64 o.fr,.int .i64 o.ln,.string o.data]] w fun e w'=>Ie S w.heap.size e w' (GE p o)∧Below w.heap.size w w':=by
 obtain⟨R,hR⟩:∃ R,Hid (Dq p o.k o.vol o.file o.to o.into o.at' o.fr o.ln o.data=R):=⟨_,rfl⟩;obtain⟨h5,h4⟩:=pP_ ho;have hA:Hid (GE p o=G9 p R):=by show _=_;unfold GE;rw[hR.out]
 generalize GE p o=RA at *;have hP:=h;obtain⟨ea,en,ec,va,vn,vc,ra,rn,rc,la,ln,lc,rfl,_⟩:=h;go_enter func20,ntmps20
 go_wp2_with fail
 refine (ch_ B0 _ p _ (hP.below (by go_grown)) hd).mono ?_;rintro e w1 ⟨rfl,hX⟩;obtain⟨C,O,D,hC,h9⟩:=bx3 hX;clear hX;rw[hp];have o0:=O.cell 0;have o1:=O.cell 1;have o2:=O.cell 2;have o3:=O.cell 3;have o4:=O.cell 4;have o5:=O.cell 5;have o6:=O.cell 6;have o7:=O.cell 7;have o8:=O.cell 8;simp only[lgA,lgB,lgC] at o0 o1 o2 o3 o4 o5 o6 o7 o8
 go_wp2_with fail
 refine (iO_ o _ hso).mono ?_;rintro e w2 ⟨rfl,hr⟩;replace C:=C.below hr;replace O:=O.below hr;replace D:=D.below hr;have hD:=Aa hC hr;have qt:w.heap.size+3<=w2.heap.size:=Zl h9 hr.size;rw[ho];clear o0 o1 o2 o3 o4 o5 o6 o7 o8 hr hC h9;obtain⟨c0,c1,c2,c3,c4,c5⟩:=C.six'
 go_wp2_with fail
 refine (ff_ B0 hB0 _ p w2 (hP.below hD) (m2_ hd)).mono ?_;rintro e w3 ⟨⟨v',rows,rfl,PU⟩,hs⟩;obtain⟨ea',en',ec',va',vn',vc',ra',rn',rc',la',ln',lc',rfl,hf⟩:=PU.own;clear PU;replace C:=C.below hs;replace O:=O.below hs;replace D:=D.below hs;have hE:=Aa hD hs;have qj:w2.heap.size<=w3.heap.size:=hs.size;clear c0 c1 c2 c3 c4 c5 hs;have o0:=O.cell 0;have o1:=O.cell 1;have o2:=O.cell 2;have o3:=O.cell 3;have o4:=O.cell 4;have o5:=O.cell 5;have o6:=O.cell 6;have o7:=O.cell 7;have o8:=O.cell 8;simp only[lgA,lgB,lgC] at o0 o1 o2 o3 o4 o5 o6 o7 o8;replace o0:=fun ob=>Am (w:=w3) ob o0;replace o1:=fun ob=>Am (w:=w3) ob o1;replace o2:=fun ob=>Am (w:=w3) ob o2;replace o3:=fun ob=>Am (w:=w3) ob o3;replace o4:=fun ob=>Am (w:=w3) ob o4;replace o5:=fun ob=>Am (w:=w3) ob o5;replace o6:=fun ob=>Am (w:=w3) ob o6;replace o7:=fun ob=>Am (w:=w3) ob o7;replace o8:=fun ob=>Am (w:=w3) ob o8
 go_wp2_with fail
 have hw:Below w3.heap.size w3 (w3.alloc (.cells #[.int .i64 p.size,.int .i64 p.next,.slice ea' en' ec',.slice va' vn' vc',.slice ra' rn' rc',.slice la' ln' lc'] 28)):=(Yg _ _).alloc (Zd _) _;replace C:=C.below hw;replace D:=D.below hw;have hF:=Aa hE hw;have qu:=hw.size;clear o0 o1 o2 o3 o4 o5 o6 o7 o8 hE O hw;generalize w3.alloc (.cells #[.int .i64 p.size,.int .i64 p.next,.slice ea' en' ec',.slice va' vn' vc',.slice ra' rn' rc',.slice la' ln' lc'] 28)=w4 at *;refine (jA_ o.k o.vol o.file o.to o.into o.at' o.fr o.ln o.data w4 h4).mono ?_;rintro e w5 ⟨rfl,ht⟩;replace C:=C.below ht;replace D:=D.below ht;replace hf:=hf.below ht;have hk:=Aa hF ht;have qv:=ht.size;clear hF ht
 go_wp2_with fail
 refine (iv_ S w2.heap.size w3.heap.size (by omega) p ea' en' ec' va' vn' vc' ra' rn' rc' la' ln' lc' rows o.k o.vol o.file o.to o.into o.at' o.fr o.ln o.data qj (by omega) (pO_ hp hd) h5 w5 (by omega) hf (hS.below hk)).mono ?_;rintro e w6 hm;rw[hR.out] at hm
 cases R with
 |inl c=>
  obtain⟨⟨a,qd,rfl⟩,hh⟩:=hm;have D6:Blk w6 (w.heap.size+2) #[.int .i64 0,.int .i64 0,.slice none 0 0,.slice none 0 0,.slice none 0 0,.slice none 0 0] 28:=(hh.block _ (by omega)).trans D;have hb:=EC hk hh (by omega);obtain⟨x0,x1,x2,x3,x4,x5⟩:=D6.six';obtain⟨f0,f1,f2,f3,f4,f5⟩:=fz6 D6;unfold BJ;go_wp2;obtain⟨W8,hj,W0,hl⟩:=AU D6 (.int .i64 0) (.int .i64 0) (.slice none 0 0) (.slice none 0 0) (.slice none 0 0) (.slice none 0 0);rw[<-hj];clear hj;refine YW (ad_ rfl _ W8 (w.heap.size+2) _ _ _ _ _ rfl W0 underlying28 rfl (by kernel_rfl) rfl) rfl ?_;rw[hA.out];exact⟨⟨a,qd,rfl⟩,hb.grown hl hb.size (fun j e=>by cases e;omega)⟩
 |inr q=>
  obtain⟨rfl,⟨e2a,e2n,e2c,v2a,v2n,v2c,r2a,r2n,r2c,l2a,l2n,l2c,rowsR,X,R1,R2,T2,R3,R4,qe,qc,NV⟩,hh⟩:=hm;replace hA:Hid (RA=if Ai (A6 p q)=true then .inr (A6 p q) else .inl 5):=hA;have hq:CN q:=pU_ hp hd ho hR.out;have C6:Blk w6 w.heap.size _ _:=(hh.block _ (by omega)).trans C;have D6:Blk w6 (w.heap.size+2) _ _:=(hh.block _ (by omega)).trans D;have hb:=EC hk hh (by omega);have qw:=hh.size
  obtain⟨vb,qa⟩:∃ vb,0<v2n->v2a=some ⟨vb,0,none⟩:=by
   rcases R2.own with⟨h1,h2,h3⟩ | ⟨b,h1,_⟩
   ·exact⟨0,fun h=>absurd h (by omega)⟩
   ·exact⟨b,fun _=>h1⟩
  have ql:v2n<=4194304:=by have h1:=R2.sl.len;have h2:=T2.len;have h3:=hq.vn;omega
  have h8:=m1_ hq.wide;have qh:=m1_ (aQ_ hp).2.2.1.wide;clear hR h4 h5 C D hf hh;obtain⟨x0,x1,x2,x3,x4,x5⟩:=X.six';replace x0:=fun ob=>Am (w:=w6) ob x0;replace x1:=fun ob=>Am (w:=w6) ob x1;replace x2:=fun ob=>Am (w:=w6) ob x2;replace x3:=fun ob=>Am (w:=w6) ob x3;replace x4:=fun ob=>Am (w:=w6) ob x4;replace x5:=fun ob=>Am (w:=w6) ob x5;have qs:=@run_makeMap prog
  go_wp2_with fail
  have T0:=AZ.made w6;have hI:Below w6.heap.size w6 (w6.alloc (.map #[] 0)):=(Yg _ _).alloc (Zd _) _;clear x0 x1 x2 x3 x4 x5;generalize w6.alloc (.map #[] 0)=w7 at *;refine (bC_ w2.heap.size q.size q.next e2a e2n e2c v2a v2n v2c r2a r2n r2c l2a l2n l2c q.vs vb 0 qa w7 ((B6.vs R2 T2.rows).below hI) ql hq.str).mono ?_;rintro e w8 ⟨⟨mb,Dm,rfl,qg,hY,h0⟩,hv⟩;replace T0:=T0.below hv;replace hv:=Aa hI hv
  go_wp2_with fail
  refine (lg_ w2.heap.size mb vb 0 Dm v2a v2n q.vs qa w8 hY h0 hq.nd ((B6.vs R2 T2.rows).below hv) hq.wide hq.wf).mono ?_;rintro e w9 ⟨⟨fa,fn,fc,rfl,qp,RF⟩,hy⟩;replace T0:=T0.below hy;replace hy:=Aa hv hy;clear h0 hY hv hI qg
  go_wp2_with fail
  refine (dF_ w6.heap.size 0 (fun _=>0) fa fn fc (AA q.vs) w9 T0 RF.sl (hd_ hq.wf) (by omega) (by omega) (fun x hx=>by have:=h8 x hx;omega) (fun o=>by omega)).mono ?_;rintro e wA ⟨rfl,TA,gA⟩;have hH:=ao_ hy gA (Zd _);clear gA T0 RF hy;obtain⟨c0,c1,c2,c3,c4,c5⟩:=(C6.below hH).six'
  go_wp2_with fail
  refine (kY_ B0 _ p wA (hP.below (Aa hb hH)) hd).mono ?_;rintro e wB ⟨⟨ka,kn,kc,rfl,qq,RK⟩,hz⟩;have qb:Cg p=AA p.vs:=by unfold Cg;rw[if_pos hp]
  rw[qb] at RK;replace TA:=TA.below hz;replace hz:=Aa hH hz;clear c0 c1 c2 c3 c4 c5 hH qb
  go_wp2_with fail
  refine (jz_ w6.heap.size (0+fn) _ ka kn kc (AA p.vs) wB TA RK.sl (hd_ (ib_ hp hd).wf) (by omega) (by omega) (fun x hx=>by have:=qh x hx;omega) (fun o=>by have h1:=qe_ h8 (bR_ q.vs).1 o;omega)).mono ?_;rintro e wC ⟨rfl,TC,gC⟩;have hJ:=ao_ hz gC (Zd _);have qx:=hJ.size;clear gC TA RK hz;have XC:=X.below hJ;obtain⟨y0,y1,y2,y3,y4,y5⟩:=XC.six'
  go_wp2_with fail
  have y5':wC.drew.cell? ⟨w3.heap.size,5,none⟩=some (.slice l2a l2n l2c):=y5;have hZ:∀ u:World,Below wC.heap.size wC u->u.cell? ⟨w3.heap.size,5,none⟩=some (.slice l2a l2n l2c):=fun u hu=>Ab hu y5;clear y0 y1 y2 y3 y4 y5;have hQ:(fun u:World=>u.cell? ⟨w3.heap.size,5,none⟩=some (.slice l2a l2n l2c)) wC.drew:=y5';refine ar_ (S:=(fun u:World=>u.cell? ⟨w3.heap.size,5,none⟩=some (.slice l2a l2n l2c))) 6 (by kernel_rfl) (by kernel_rfl) ?_;refine tk 0 ?_;refine tk 1 ?_;refine tk 2 ?_;refine AW (i:=3) (by kernel_rfl) rfl (fun K hK=>?_);go_simp;refine (dG_ w6.heap.size (0+fn+kn) _ wC.drew TC (by omega)).mono ?_;rintro e wD ⟨⟨sa,sn,sc,L,rfl,qC,RS,q1,q2,q3,q4⟩,hN⟩;have hM:Below wC.heap.size wC wD:=Aa (Yg _ wC).drew hN;have hL:L=AQ (AA q.vs) (Cn (AA p.vs)):=g6_ q1 q2 q3 (fun o ho=>by rw[q4 o ho,ia_];omega) (bR_ q.vs).1 (bR_ q.vs).2.1 (oZ_ (bR_ p.vs).2.1) (hd_ hq.wf) (qf_ (hd_ (ib_ hp hd).wf));subst hL;have qy:=hM.size;have ha:=Aa hJ hM;dsimp only;refine hK.out _ _ (hZ _ hM) (fun hHeld=>?_);clear hK K
  try simp only[Act.put,lsA,lsB,lsC]
  refine AW (i:=4) (by kernel_rfl) rfl (fun K hK=>?_);obtain⟨i0,hi,qm,qn,qo⟩:=info_parts Dg;have qr:l2n<=200:=by rw[<-R4.sl.len];exact hq.ll
  refine aJ_ rfl (jE_ _ _ _ rfl w2.heap.size _ i0 _ 40 hi qm qn qo underlying26 rfl (by decide) aS_ a9_ l2a l2n l2c q.lt rfl (R4.below ha) sa sn sc (AQ (AA q.vs) (Cn (AA p.vs))) rfl RS.sl (RS.hd.2.2 (show 0<wC.heap.size by omega)).2 (RS.hd.2.2 (show 0<wC.heap.size by omega)).1 r2a r2n r2c q.rf (R3.below ha) qe (l2n+sn) rfl (by unfold maxLen;omega) (by omega) (by omega) ?_);intro a10 cap10 wE row RL RR hg hn hW hT;have XA:=(X.below ha).ty hg hn (by decide);have CA:=(C6.below ha).ty hg hn (by decide);have DA:=(D6.below ha).ty hg hn (by decide);have E1:=(R1.below ha).ty hg hn (by decide);have E2:=(R2.below ha).ty hg hn (by decide);have E3:=(T2.below ha).ty hg hn (by decide) (by decide);have NE:=kp_ (T2.below ha) (dc_ T2 NV ha) hg hn (by decide);have hG:=(Aa hb ha).grown hg (Aa hb ha).size (fun j e=>by have:=hW j e;omega);have qz:=hg.size;refine hK.out _ _ (XA.cell 5) (fun hHeld=>?_);clear hK K
  try simp only[Act.put,lsA,lsB,lsC]
  refine tk 5 ?_;refine wpAnyH_done (by kernel_rfl) ?_ _;refine BI rfl ?_;clear hZ hQ hHeld y5';have hc:=BW wE w3.heap.size 5 (.slice a10 (l2n+sn) cap10);have XL:Blk (wE.setCell ⟨w3.heap.size,5,none⟩ (.slice a10 (l2n+sn) cap10)) w3.heap.size #[.int .i64 q.size,.int .i64 q.next,.slice e2a e2n e2c,.slice v2a v2n v2c,.slice r2a r2n r2c,.slice a10 (l2n+sn) cap10] 28:=by simpa using XA.set 5 (.slice a10 (l2n+sn) cap10)
  have y5:=XA.cell 5;simp only[lgA,lgB,lgC] at y5;have g5:=XA.frozen 5;obtain⟨z0,z1,z2,z3,z4,z5⟩:=XL.six'
  go_wp2_with fail
  have CL:Blk _ w.heap.size _ _:=(hc.block _ CA.lt (by simp only[ne_eq,Zo];omega)).trans CA;have DL:Blk _ (w.heap.size+2) _ _:=(hc.block _ DA.lt (by simp only[ne_eq,Zo];omega)).trans DA;have PTL:BG w2.heap.size (wE.setCell ⟨w3.heap.size,5,none⟩ (.slice a10 (l2n+sn) cap10)) (.agg #[.int .i64 q.size,.int .i64 q.next,.slice e2a e2n e2c,.slice v2a v2n v2c,.slice r2a r2n r2c,.slice a10 (l2n+sn) cap10]) (A6 p q) rowsR:=⟨_,_,_,_,_,_,_,_,_,_,_,_,rfl,E1.ty hc (aa_ XA) (by decide),⟨E2.ty hc (aa_ XA) (by decide),E3.ty hc (aa_ XA) (by decide) (by decide)⟩,RR.ty hc (aa_ XA) (by decide),RL.ty hc (aa_ XA) (by decide),hT,qc,kp_ E3 NE hc (aa_ XA) (by decide)⟩;have h6:AB (A6 p q):=hq.dim hd (by show (q.lt++AQ _ _).length<=_;rw[RL.sl.len];omega);have hO:=hG.grown hc hG.size (fun j e=>by cases e;omega);have qB:=hc.size;generalize wE.setCell ⟨w3.heap.size,5,none⟩ (.slice a10 (l2n+sn) cap10)=wF at *;refine (ch_ w2.heap.size _ (A6 p q) wF PTL.t.at' h6).mono ?_;rintro e wG ⟨rfl,hB⟩;have XG:=XL.below hB;have DG:=DL.below hB;have he:=Aa hO hB;have qA:=hB.size;have PTG:=PTL.below hB;clear y5 g5 z0 z1 z2 z3 z4 z5 XA CA DA E1 E2 E3 NE RR RL R1 R2 T2 R3 R4 hc XL CL DL PTL
  cases h7:Ai (A6 p q)
  ·rw[h7,if_neg (by simp)] at hA;obtain⟨ea5,qf,qk⟩:=hS.after;have qi:=qf.below he;have hU:wG.drew.cell? ⟨2,0,none⟩=some (.iface 277 (.pointer (some ea5))):=qi;have DD:Blk wG.drew (w.heap.size+2) #[.int .i64 0,.int .i64 0,.slice none 0 0,.slice none 0 0,.slice none 0 0,.slice none 0 0] 28:=DG;have BB:Below w.heap.size w wG.drew:=he.drew
   go_wp2_with fail
   have hQ:(fun u:World=>u.cell? ⟨2,0,none⟩=some (.iface 277 (.pointer (some ea5)))) wG.drew:=hU;refine aC_ (S:=(fun u:World=>u.cell? ⟨2,0,none⟩=some (.iface 277 (.pointer (some ea5))))) 6 (by kernel_rfl) rfl ?_;generalize wG.drew=wd at DD BB hU hQ ⊢;obtain⟨x0,x1,x2,x3,x4,x5⟩:=DD.six';obtain⟨f0,f1,f2,f3,f4,f5⟩:=fz6 DD;refine tk 0 ?_;refine tk 1 ?_;refine tk 2 ?_;refine tk 3 ?_;refine AW (i:=4) (by kernel_rfl) rfl (fun K hK=>?_);go_simp;obtain⟨W8,hj,W0,hl⟩:=AU DD (.int .i64 0) (.int .i64 0) (.slice none 0 0) (.slice none 0 0) (.slice none 0 0) (.slice none 0 0);rw[<-hj];clear hj;have hV:=hl.cell hU (by simp only[ne_eq,Zo];omega);refine hK.out _ _ hV (fun hHeld=>?_);clear hK K
   try simp only[Act.put,lsA,lsB,lsC]
   refine tk 5 ?_;refine wpAnyH_done (by kernel_rfl) ?_ _;go_wp2;refine YW (ad_ rfl _ W8 (w.heap.size+2) _ _ _ _ _ rfl W0 underlying28 rfl (by kernel_rfl) rfl) rfl ?_;rw[hA.out];exact⟨⟨ea5,qk,rfl⟩,BB.grown hl BB.size (fun j e=>by cases e;omega)⟩
  ·rw[h7,if_pos rfl] at hA;obtain⟨y0,y1,y2,y3,y4,y5⟩:=XG.six';obtain⟨x0,x1,x2,x3,x4,x5⟩:=DG.six';obtain⟨f0,f1,f2,f3,f4,f5⟩:=fz6 DG;go_wp2;obtain⟨W8,hj,W0,hl⟩:=AU DG (.int .i64 q.size) (.int .i64 q.next) (.slice e2a e2n e2c) (.slice v2a v2n v2c) (.slice r2a r2n r2c) (.slice a10 (l2n+sn) cap10);have PF:=(PTG.tyP hl (aa_ DG)).mono (show w.heap.size<=w2.heap.size by omega);rw[<-hj];clear hj;refine YW (ad_ rfl _ W8 (w.heap.size+2) _ _ _ _ _ rfl W0 underlying28 rfl (by kernel_rfl) rfl) rfl ?_;rw[hA.out];exact⟨⟨_,_,rfl,PF,h6⟩,he.grown hl he.size (fun j e=>by cases e;omega)⟩
end
section
open Go.RowKit Go.Extern.Stop Go.Stop Go.Extern Tryz
def GF:Array Value->Sem Value:=Extern.ReflectliteType.method fun t=>do Rtype.noPackHeld "Comparable" t;pure (.bool (<-typeInfo t).comparable)
theorem E6 (v:Value)(w:World):(Extern.ReflectliteType.typeOf #[.iface 277 v]).run prog w=.ok (.iface 188 (.agg #[.pointer (some ⟨11,277,none⟩)])) w:=by kernel_rfl
theorem Dh (w:World):(GF #[.agg #[.pointer (some ⟨11,277,none⟩)]]).run prog w=.ok (.bool true) w:=by kernel_rfl
theorem Ca (v:Value)(w:World):(Go.method 408 188 v "Comparable").run prog w=.ok (217,v) w:=by kernel_rfl
theorem GJ:(prog.info? 277).map (·.comparable)=some true:=by kernel_rfl
theorem GL:(prog.info? 296).map (·.size)=some 1:=by kernel_rfl
theorem Hr (v:Value)(xT:TypeId)(w:World):(Instr.typeAssert (.iface 277 v) xT 190 true).run prog w=.ok (.tuple #[.nilIface,.bool false]) w:=run_typeAssert_lacksB underlying190 (by kernel_rfl) (by kernel_rfl) v xT w
theorem Et (v:Value)(xT:TypeId)(w:World):(Instr.typeAssert (.iface 277 v) xT 193 true).run prog w=.ok (.tuple #[.nilIface,.bool false]) w:=run_typeAssert_lacksB underlying193 (by kernel_rfl) (by kernel_rfl) v xT w
theorem Ec (v:Value)(xT:TypeId)(w:World):(Instr.typeAssert (.iface 277 v) xT 195 true).run prog w=.ok (.tuple #[.nilIface,.bool false]) w:=run_typeAssert_lacksB underlying195 (by kernel_rfl) (by kernel_rfl) v xT w
theorem Hs (v:Value)(xT:TypeId)(w:World):(Instr.typeAssert (.iface 63 v) xT 190 true).run prog w=.ok (.tuple #[.nilIface,.bool false]) w:=run_typeAssert_lacksB underlying190 (by kernel_rfl) (by kernel_rfl) v xT w
theorem DY (v:Value)(xT:TypeId)(w:World):(Instr.typeAssert (.iface 63 v) xT 193 true).run prog w=.ok (.tuple #[.iface 63 v,.bool true]) w:=run_typeAssert_hasB underlying193 (by kernel_rfl) v xT w
theorem CU (v:Value)(w:World):(Go.method 408 63 v "Unwrap").run prog w=.ok (205,v) w:=by kernel_rfl
theorem Df (v:Value)(w:World):(callFunc 205 #[v]).run prog w=.ok (.enter 205 #[v]) w:=by kernel_rfl
theorem qg_ (b:Addr)(w:World):
  Calls prog 21 #[.nilIface,.iface 277 (.pointer (some b))] w fun e w'=>e=.returned (.bool false)∧w'=w:=by
 have hn:=run_eql_iface_nil_left (P:=prog) w 277 (.pointer (some b)) underlying58;go_enter func21,ntmps21;go_wp2;go_ret;exact⟨rfl,rfl⟩
theorem lj_ (c:Int)(b:Addr)(w:World):
  Calls prog 21 #[.iface 63 (.agg #[.int .i64 c,.iface 277 (.pointer (some b))]),.iface 277 (.pointer (some b))] w fun e w'=>e=.returned (.bool true)∧Below w.heap.size w w':=by
 obtain⟨i,hi,ha⟩:=ZW.1 GJ;obtain⟨j,hj,he⟩:=ZW.1 GL;have h8:=@YX prog 51 _ Extern.ReflectliteType.typeOf func51 (by kernel_rfl) (by kernel_rfl) (by kernel_rfl) (by kernel_rfl);have hb:=@YX prog 217 _ GF func217 (by kernel_rfl) (by kernel_rfl) (by kernel_rfl) (by kernel_rfl);have tT:=E6;have cT:=Dh;have mR:=Ca;have nE:=Hr;have uE:=Et;have vE:=Ec;have nW:=Hs;have uW:=DY;have mU:=CU;have eU:=Df;have hc:=fun w=>run_eql_iface_ptr_same (P:=prog) w b underlying58 underlying277 hi ha hj;have hf:=fun w=>run_eql_iface_types (P:=prog) 63 277 (.agg #[.int .i64 c,.iface 277 (.pointer (some b))]) (.pointer (some b)) underlying58 (by decide) w;go_enter func21,ntmps21;go_wp2;refine wp_loop_rounds 2 ?_;rw[rounds_succ];go_wp2;rw[rounds_succ];go_wp2;go_ret;exact⟨rfl,by go_grown⟩
theorem jH_ (c:Int)(a b:Addr)(ca cb:Array Value)(ta tb:TypeId)(w:World)(hne:a≠b)(ha:w.heap[a.block]?=some (.cells ca ta (0,0)))(hb:w.heap[b.block]?=some (.cells cb tb (0,0))):
  Calls prog 21 #[.iface 63 (.agg #[.int .i64 c,.iface 277 (.pointer (some a))]),.iface 277 (.pointer (some b))] w fun e w'=>e=.returned (.bool false)∧Below w.heap.size w w':=by
 obtain⟨i,hi,hc⟩:=ZW.1 GJ;obtain⟨j,hj,hh⟩:=ZW.1 GL;have h8:=@YX prog 51 _ Extern.ReflectliteType.typeOf func51 (by kernel_rfl) (by kernel_rfl) (by kernel_rfl) (by kernel_rfl);have hk:=@YX prog 217 _ GF func217 (by kernel_rfl) (by kernel_rfl) (by kernel_rfl) (by kernel_rfl);have tT:=E6;have cT:=Dh;have mR:=Ca;have nE:=Hr;have uE:=Et;have vE:=Ec;have nW:=Hs;have uW:=DY;have mU:=CU;have eU:=Df;have he:=fun (u:World) (hu:Below w.heap.size w u)=>run_eql_iface_ptr_other (P:=prog) u underlying58 underlying277 hi hc hj (by rw[hh];decide) hne (by rw[hu.block _ (ZG.1 ha).1];exact ha) (by rw[hu.block _ (ZG.1 hb).1];exact hb);have hl:=fun w=>run_eql_iface_types (P:=prog) 63 277 (.agg #[.int .i64 c,.iface 277 (.pointer (some a))]) (.pointer (some b)) underlying58 (by decide) w;have hf:=he w (Yg _ _);have hg:=fun ob=>he (w.alloc ob) ((Yg _ _).alloc (Zd _) _);clear he;go_enter func21,ntmps21;go_wp2;refine wp_loop_rounds 2 ?_;rw[rounds_succ];go_wp2;rw[rounds_succ];go_wp2;go_ret;exact⟨rfl,by go_grown⟩
def Eh:Array Value->Sem Value:=fun args=>ReflectliteValue.unpack (args.getD 0 (.tuple #[]))
def Hv:Array Value->Sem Value:=ReflectliteValue.methodAny (ReflectliteValue.valueError "reflectlite.Value.Type" 0) fun t _ _ _=>ReflectliteType.toType t
def GK:Array Value->Sem Value:=ReflectliteValue.method (ReflectliteValue.valueError "reflectlite.Value.IsNil" 0) ReflectliteValue.isNil
def GI:Array Value->Sem Value:=ReflectliteValue.method (ReflectliteValue.valueError "reflectlite.Value.Elem" 0) ReflectliteValue.elem
def GH:Array Value->Sem Value:=ReflectliteType.method ReflectliteType.elem
def GO:Array Value->Sem Value:=ReflectliteType.abiMethod fun t=>do pure (.int .u8 (<-Rtype.kind t))
def Ho:Array Value->Sem Value:=ReflectliteType.relation "Implements" ReflectliteType.implements_
def H4:Array Value->Sem Value:=ReflectliteType.relation "AssignableTo" ReflectliteType.assignableTo
theorem GD (v:Value)(w:World):(Extern.ReflectliteType.typeOf #[.iface 63 v]).run prog w=.ok (.iface 188 (.agg #[.pointer (some ⟨11,63,none⟩)])) w:=by kernel_rfl
theorem Fz (q:Addr)(w:World):(Eh #[.iface 65 (.pointer (some q))]).run prog w=.ok (.agg #[.pointer (some ⟨11,65,none⟩),.pointer (some ⟨w.heap.size,0,none⟩),.int .u64 150]) (w.alloc (.cells #[.pointer (some q)] 65)):=by kernel_rfl
theorem HD (p:Addr)(w:World):(Hv #[.agg #[.pointer (some ⟨11,65,none⟩),.pointer (some p),.int .u64 150]]).run prog w=.ok (.iface 188 (.agg #[.pointer (some ⟨11,65,none⟩)])) w:=by kernel_rfl
theorem EA (h:Value)(w:World):(Go.method 408 188 (.agg #[h]) "Kind").run prog w=.ok (201,h) w:=by kernel_rfl
theorem Ey (v:Value)(w:World):(Go.method 408 188 v "Elem").run prog w=.ok (218,v) w:=by kernel_rfl
theorem Ez (v:Value)(w:World):(Go.method 408 188 v "Implements").run prog w=.ok (219,v) w:=by kernel_rfl
theorem EQ (v:Value)(w:World):(Go.method 408 188 v "AssignableTo").run prog w=.ok (216,v) w:=by kernel_rfl
theorem Gf (w:World):(GO #[.pointer (some ⟨11,65,none⟩)]).run prog w=.ok (.int .u8 22) w:=by kernel_rfl
theorem Gg (w:World):(GO #[.pointer (some ⟨11,63,none⟩)]).run prog w=.ok (.int .u8 25) w:=by kernel_rfl
theorem G4 (w:World):(GH #[.agg #[.pointer (some ⟨11,65,none⟩)]]).run prog w=.ok (.iface 188 (.agg #[.pointer (some ⟨11,63,none⟩)])) w:=by kernel_rfl
theorem HC (w:World):(Ho #[.agg #[.pointer (some ⟨11,63,none⟩)],.iface 188 (.agg #[.pointer (some ⟨11,58,none⟩)])]).run prog w=.ok (.bool true) w:=by kernel_rfl
theorem H2 (w:World):(H4 #[.agg #[.pointer (some ⟨11,63,none⟩)],.iface 188 (.agg #[.pointer (some ⟨11,63,none⟩)])]).run prog w=.ok (.bool true) w:=by kernel_rfl
theorem FA (c:Int)(a:Addr)(w:World):(Eh #[.iface 63 (.agg #[.int .i64 c,.iface 277 (.pointer (some a))])]).run prog w=.ok (.agg #[.pointer (some ⟨11,63,none⟩),.pointer (some ⟨w.heap.size,0,none⟩),.int .u64 153]) (w.alloc (.cells #[.int .i64 c,.iface 277 (.pointer (some a))] 63)):=by kernel_rfl
theorem E7 (p:Addr)(w:World):(ReflectliteValue.parts (.agg #[.pointer (some ⟨11,65,none⟩),.pointer (some p),.int .u64 150])).run prog w=.ok (some (65,p,150)) w:=by kernel_rfl
theorem GR (p:Addr)(w:World):(ReflectliteValue.parts (.agg #[.pointer (some ⟨11,63,none⟩),.pointer (some p),.int .u64 153])).run prog w=.ok (some (63,p,153)) w:=by kernel_rfl
theorem GQ (p:Addr)(w:World):(ReflectliteValue.parts (.agg #[.pointer (some ⟨11,63,none⟩),.pointer (some p),.int .u64 409])).run prog w=.ok (some (63,p,409)) w:=by kernel_rfl
theorem GC (w:World):(Rtype.directlyAssignable 63 63).run prog w=.ok true w:=by kernel_rfl
theorem G3 (w:World):(Rtype.elem? 65).run prog w=.ok (some 63) w:=by kernel_rfl
theorem Ih (p:Addr)(w:World):(ReflectliteValue.mk 63 p ReflectliteValue.flagAddr).run prog w=.ok (.agg #[.pointer (some ⟨11,63,none⟩),.pointer (some p),.int .u64 409]) w:=by kernel_rfl
theorem G6 (p q:Addr)(w:World)(h:(loadVar 65 p).run prog w=.ok (.pointer (some q)) w):(GK #[.agg #[.pointer (some ⟨11,65,none⟩),.pointer (some p),.int .u64 150]]).run prog w=.ok (.bool false) w:=by
 show Sem.run prog (bind (ReflectliteValue.parts (.agg #[.pointer (some ⟨11,65,none⟩),.pointer (some p),.int .u64 150])) _) w=_;simp[E7,ReflectliteValue.isNil,h]
theorem G5 (p q:Addr)(w:World)(h:(loadVar 65 p).run prog w=.ok (.pointer (some q)) w):(GI #[.agg #[.pointer (some ⟨11,65,none⟩),.pointer (some p),.int .u64 150]]).run prog w=.ok (.agg #[.pointer (some ⟨11,63,none⟩),.pointer (some q),.int .u64 409]) w:=by
 show Sem.run prog (bind (ReflectliteValue.parts (.agg #[.pointer (some ⟨11,65,none⟩),.pointer (some p),.int .u64 150])) _) w=_;simp[E7,ReflectliteValue.elem,h,G3,Ih]
theorem H3 (p q:Addr)(v:Value)(w w':World)(h:(loadVar 63 q).run prog w=.ok v w)(h':(storeVar 63 p v).run prog w=.ok () w'):(ReflectliteValue.set #[.agg #[.pointer (some ⟨11,63,none⟩),.pointer (some p),.int .u64 409],.agg #[.pointer (some ⟨11,63,none⟩),.pointer (some q),.int .u64 153]]).run prog w=.ok (.tuple #[]) w':=by
 show Sem.run prog (bind (ReflectliteValue.parts (.agg #[.pointer (some ⟨11,63,none⟩),.pointer (some p),.int .u64 409])) (fun _=>bind (ReflectliteValue.parts (.agg #[.pointer (some ⟨11,63,none⟩),.pointer (some q),.int .u64 153])) _)) w=_;simp[GQ,GR,h,GC,h',ReflectliteValue.flagAddr]
theorem qh_ (t:Value)(w:World):
  Calls prog 22 #[.nilIface,t] w fun e w'=>e=.returned (.bool false)∧w'=w:=by
 go_enter func22,ntmps22;go_wp2;go_ret;exact⟨rfl,rfl⟩
theorem lk_ (p q:Addr)(w:World)(h:w.cell? p=some (.pointer (some q))):(loadVar 65 p).run prog w=.ok (.pointer (some q)) w:=by
 simp[loadVar,isAgg,underlying,underlying65,h,Result.andThen]
theorem Hh:(prog.info? 63).map (·.size)=some 2:=by kernel_rfl
theorem o3_ (b:Nat)(x y:Value)(w:World)(h:Blk w b #[x,y] 63):(loadVar 63 ⟨b,0,none⟩).run prog w=.ok (.agg #[x,y]) w:=
 run_loadVar_row w b 63 63 #[x,y] _ _ h underlying63 rfl Hh
theorem nU_ (b:Nat)(c0 c1:Value)(c:Int)(a:Addr)(w:World)(h:Blk w b #[c0,c1] 63):(storeVar 63 ⟨b,0,none⟩ (.agg #[.int .i64 c,.iface 277 (.pointer (some a))])).run prog w=.ok () ((w.setCell ⟨b,0,none⟩ (.int .i64 c)).setCell ⟨b,1,none⟩ (.iface 277 (.pointer (some a)))):=by
 have x0:w.cell? ⟨b,0,none⟩=some c0:=h.cell 0;have f0:=h.frozen 0;have h1:=h.set 0 (.int .i64 c);have x1:(w.setCell ⟨b,0,none⟩ (.int .i64 c)).cell? ⟨b,1,none⟩=some c1:=by rw[h1.cell];rfl
 have f1:=h1.frozen 1;simp[storeVar,Value.cells,storeCells,Addr.add];rw[run_store prog w ⟨b,0,none⟩ _ _ (by rfl)];simp[x0,f0,Result.andThen];rw[run_store prog _ ⟨b,1,none⟩ _ _ (by rfl)];simp[x1,f1]
theorem qi_ (c:Int)(a:Addr)(b:Nat)(c0 c1:Value)(w:World)(hg:w.cell? ⟨3,0,none⟩=some (.iface 188 (.agg #[.pointer (some ⟨11,58,none⟩)])))(hb:Blk w b #[c0,c1] 63):
  Calls prog 22 #[.iface 63 (.agg #[.int .i64 c,.iface 277 (.pointer (some a))]),.iface 65 (.pointer (some ⟨b,0,none⟩))] w fun e w'=>e=.returned (.bool true)∧Blk w' b #[.int .i64 c,.iface 277 (.pointer (some a))] 63∧w.grownBy w' (some b):=by
 have hV:=@YX prog 53 _ Eh func53 (by kernel_rfl) (by kernel_rfl) (by kernel_rfl) (by kernel_rfl);have hT:=@YX prog 54 _ Hv func54 (by kernel_rfl) (by kernel_rfl) (by kernel_rfl) (by kernel_rfl);have hN:=@YX prog 55 _ GK func55 (by kernel_rfl) (by kernel_rfl) (by kernel_rfl) (by kernel_rfl);have hK:=@YX prog 201 _ GO func201 (by kernel_rfl) (by kernel_rfl) (by kernel_rfl) (by kernel_rfl);have hE:=@YX prog 218 _ GH func218 (by kernel_rfl) (by kernel_rfl) (by kernel_rfl) (by kernel_rfl);have hI:=@YX prog 219 _ Ho func219 (by kernel_rfl) (by kernel_rfl) (by kernel_rfl) (by kernel_rfl);have hO:=@YX prog 51 _ Extern.ReflectliteType.typeOf func51 (by kernel_rfl) (by kernel_rfl) (by kernel_rfl) (by kernel_rfl);have hS:=@YX prog 216 _ H4 func216 (by kernel_rfl) (by kernel_rfl) (by kernel_rfl) (by kernel_rfl);have hL:=@YX prog 106 _ GI func106 (by kernel_rfl) (by kernel_rfl) (by kernel_rfl) (by kernel_rfl);have hQ:=@YX prog 107 _ ReflectliteValue.set func107 (by kernel_rfl) (by kernel_rfl) (by kernel_rfl) (by kernel_rfl);have t1:=GD;have t2:=Fz;have t3:=HD;have t4:=EA;have t5:=Ey;have t6:=Ez;have t7:=EQ;have t8:=Gf;have t9:=Gg;have ta:=G4;have tb:=HC;have tc:=H2;have td:=FA;obtain⟨W1,hf⟩:∃ W,W=w.alloc (.cells #[.pointer (some ⟨b,0,none⟩)] 65):=⟨_,rfl⟩;obtain⟨W2,ha⟩:∃ W,W=(w.alloc (.cells #[.pointer (some ⟨b,0,none⟩)] 65)).alloc (.cells #[.pointer (some ⟨11,65,none⟩),.pointer (some ⟨w.heap.size,0,none⟩),.int .u64 150] 116):=⟨_,rfl⟩;obtain⟨W3,he⟩:∃ W,W=((w.alloc (.cells #[.pointer (some ⟨b,0,none⟩)] 65)).alloc (.cells #[.pointer (some ⟨11,65,none⟩),.pointer (some ⟨w.heap.size,0,none⟩),.int .u64 150] 116)).alloc (.cells #[.pointer (some ⟨11,65,none⟩),.pointer (some ⟨w.heap.size,0,none⟩),.int .u64 150] 116):=⟨_,rfl⟩;obtain⟨W4,hc⟩:∃ W,W=(((w.alloc (.cells #[.pointer (some ⟨b,0,none⟩)] 65)).alloc (.cells #[.pointer (some ⟨11,65,none⟩),.pointer (some ⟨w.heap.size,0,none⟩),.int .u64 150] 116)).alloc (.cells #[.pointer (some ⟨11,65,none⟩),.pointer (some ⟨w.heap.size,0,none⟩),.int .u64 150] 116)).alloc (.cells #[.int .i64 c,.iface 277 (.pointer (some a))] 63):=⟨_,rfl⟩;have B2:Below w.heap.size w W2:=by rw[ha];go_grown
 have B4:Below w.heap.size w W4:=by rw[hc];go_grown
 have p2:Blk W2 w.heap.size #[.pointer (some ⟨b,0,none⟩)] 65:=by rw[ha];exact (Blk.new w _ _).alloc _
 have p3:Blk W3 w.heap.size #[.pointer (some ⟨b,0,none⟩)] 65:=by rw[he];exact ((Blk.new w _ _).alloc _).alloc _
 have r4:Blk W4 (w.heap.size+1+1+1) #[.int .i64 c,.iface 277 (.pointer (some a))] 63:=by rw[hc];exact Blk.new' _ _ _ _ (by simp)
 have b4:=hb.below B4;have hj:=hb.lt;have n1:=G6 ⟨w.heap.size,0,none⟩ ⟨b,0,none⟩ W2 (lk_ _ _ _ (p2.cell 0));have n2:=G5 ⟨w.heap.size,0,none⟩ ⟨b,0,none⟩ W3 (lk_ _ _ _ (p3.cell 0));have n3:=H3 ⟨b,0,none⟩ ⟨w.heap.size+1+1+1,0,none⟩ _ W4 _ (o3_ _ _ _ _ r4) (nU_ b c0 c1 c a W4 b4);have hh:=Ab B2 hg
 have E8:Blk ((W4.setCell ⟨b,0,none⟩ (.int .i64 c)).setCell ⟨b,1,none⟩ (.iface 277 (.pointer (some a)))) b #[.int .i64 c,.iface 277 (.pointer (some a))] 63:=by
  have:=(b4.set 0 (.int .i64 c)).set 1 (.iface 277 (.pointer (some a)))
  simpa using this
 have G8:w.grownBy ((W4.setCell ⟨b,0,none⟩ (.int .i64 c)).setCell ⟨b,1,none⟩ (.iface 277 (.pointer (some a)))) (some b):=af_ (af_ (au_ (Yh _ _) B4) _ _) _ _;rw[ha] at n1 hh;rw[he] at n2;rw[hc] at n3 E8 G8;clear hf ha he hc B2 B4 p2 p3 r4 b4;go_enter func22,ntmps22;go_wp2;refine wp_loop_rounds 1 ?_;rw[rounds_succ];go_wp2;go_ret;exact⟨rfl,E8,G8⟩
end
section
open Go Go.RowKit Go.BigFrame Tryz
variable{B i k0:Nat}{a:Option Addr}{p:Po}{v:Value}{w w':World}
theorem mr_ (B:Nat)(w:World):BG B w (.agg #[.int .i64 0,.int .i64 0,.slice none 0 0,.slice none 0 0,.slice none 0 0,.slice none 0 0]) ⟨0,0,[],[],[],[]⟩ []:=⟨_,_,_,_,_,_,_,_,_,_,_,_,rfl,aB_,⟨aB_,Ax.nil _ _⟩,aB_,aB_,(fun x y h=>by cases h),(fun i j r s x y _ h=>by simp at h),List.nodup_nil⟩
def If (S:Addr->Prop)(ep:Addr)(B:Nat)(p:Po)(o:Opr)(e:Ending)(w':World):Prop:=
 (Ai p=false∧e=.returned (.tuple #[Ej,BJ 1 ep]))∨(Ai p=true∧∃ c a,S a∧e=.returned (.tuple #[Ej,BJ c a])∧opS p o=(c,p))∨(Ai p=true∧∃ v q rows,e=.returned (.tuple #[v,.nilIface])∧BG B w' v q rows∧AB q∧opS p o=(0,q))
theorem ms_ (S:Addr->Prop)(ep:Addr)(B0:Nat)(hB0:0<B0)(v:Value)(p:Po)(o:Opr)(w:World)(h:AF B0 w v p)(hd:AB p)(hso:BA o)(hE:F8 S ep w)(hgl:11<=w.heap.size):
  Calls prog 20 #[v,.agg #[.int .i64 o.k,.string o.vol,.string o.file,.string o.to,.string o.into,.int .i64 o.at',.int .i64 o.fr,.int .i64 o.ln,.string o.data]] w fun e w'=>If S ep w.heap.size p o e w'∧Below w.heap.size w w':=by
 cases hp:Ai p
 ·refine (li_ ep B0 v p o w h hd hp hE.pool).mono ?_;rintro e w' ⟨rfl,hB⟩;exact⟨.inl ⟨hp,rfl⟩,hB⟩
 ·cases ho:opB o
  ·obtain⟨a,ha,hg⟩:=hE.s.op;refine (mq_ a B0 v p o w h hd hp ho hso ha).mono ?_;rintro e w' ⟨rfl,hB⟩;exact⟨.inr (.inl ⟨hp,2,a,hg,rfl,by unfold opS;rw[ho];rfl⟩),hB⟩
  ·refine (nT_ S B0 hB0 v p o w h hd hp ho hso hE.s hgl).mono ?_;rintro e w' ⟨hb,hB⟩;refine⟨?_,hB⟩;have hc:=o1_ hp ho;unfold GE at hb
   cases hr:Dq p o.k o.vol o.file o.to o.into o.at' o.fr o.ln o.data with
   |inl c=>
    rw[hr] at hc hb;obtain⟨a,ha,he⟩:=hb;exact .inr (.inl ⟨hp,c,a,ha,he,hc.symm⟩)
   |inr q=>
    rw[hr] at hc hb
    cases hk:Ai (A6 p q)
    ·simp only[G9,hk,Zj,if_false] at hb;obtain⟨a,ha,he⟩:=hb;simp only[B9,hk,Zj,if_false] at hc;exact .inr (.inl ⟨hp,5,a,ha,he,hc.symm⟩)
    ·simp only[G9,hk,if_true] at hb;obtain⟨v',rows,he,hT,hf⟩:=hb;simp only[B9,hk,if_true] at hc;exact .inr (.inr ⟨hp,v',_,rows,he,hT,hf,hc.symm⟩)
theorem nV_ (S:Addr->Prop)(ep:Addr)(B0:Nat)(hB0:0<B0)(v:Value)(p:Po)(o:Opr)(w:World)(h:AF B0 w v p)(hd:AB p)(hso:BA o)(hE:F8 S ep w)(hgl:11<=w.heap.size):
  Calls prog 7 #[v,.agg #[.int .i64 o.k,.string o.vol,.string o.file,.string o.to,.string o.into,.int .i64 o.at',.int .i64 o.fr,.int .i64 o.ln,.string o.data]] w fun e w'=>(∃ v' c,e=.returned (.tuple #[v',.int .i64 c])∧c=(Bz p o).1∧Dc w.heap.size w' v' (Bz p o).2∧AB (Bz p o).2)∧Below w.heap.size w w':=by
 have hA:=h;obtain⟨ea,en,ec,va,vn,vc,ra,rn,rc,la,ln,lc,rfl,_⟩:=h;obtain⟨R,hR⟩:∃ R,Hid (Bz p o=R):=⟨_,rfl⟩;rw[hR.out];go_enter func7,ntmps7
 go_wp2_with fail
 have hs:Below w.heap.size w (((w.alloc (.cells #[.int .i64 p.size,.int .i64 p.next,.slice ea en ec,.slice va vn vc,.slice ra rn rc,.slice la ln lc] 28)).alloc (.cells #[.int .i64 o.k,.string o.vol,.string o.file,.string o.to,.string o.into,.int .i64 o.at',.int .i64 o.fr,.int .i64 o.ln,.string o.data] 33)).alloc (.cells #[.int .i64 0,.int .i64 0,.slice none 0 0,.slice none 0 0,.slice none 0 0,.slice none 0 0] 28)):=by go_grown
 refine (ms_ S ep B0 hB0 _ p o _ (hA.below hs) hd hso (hE.below hs) (Zl hgl hs.size)).mono ?_;rintro e w1 ⟨hx,hl⟩;clear hs;have hc:Below w.heap.size w w1:=Aa (by go_grown) hl;have C:Blk w1 w.heap.size #[.int .i64 p.size,.int .i64 p.next,.slice ea en ec,.slice va vn vc,.slice ra rn rc,.slice la ln lc] 28:=(((Blk.new w _ _).alloc _).alloc _).below hl;have D:Blk w1 (w.heap.size+2) #[.int .i64 0,.int .i64 0,.slice none 0 0,.slice none 0 0,.slice none 0 0,.slice none 0 0] 28:=(Blk.new' _ _ _ _ (by simp)).below hl;have hG:w.heap.size+3<=w1.heap.size:=by have:=hl.size;simp at this;omega
 clear hl;replace hE:=hE.below hc;rcases hx with⟨hp,rfl⟩ | ⟨hp,c,a,hC,rfl,hS⟩ | ⟨hp,v',q,rows,rfl,PT,hH,hS⟩
 ·have hq:R=(1,⟨0,0,[],[],[],[]⟩):=by rw[<-hR.out];unfold Bz;rw[hp];rfl
  subst hq;clear hR;have hr:=fun ob=>Am (w:=w1) ob hE.pool;unfold Ej BJ
  go_wp2_with fail
  refine (lj_ 1 ep _).mono ?_;rintro e w2 ⟨rfl,hb⟩;have he:Below w1.heap.size w1 (w1.alloc (.cells #[.int .i64 0,.int .i64 0,.slice none 0 0,.slice none 0 0,.slice none 0 0,.slice none 0 0] 28)):=(Yg _ _).alloc (Zd _) _;replace hb:=Aa he hb;replace D:=D.below hb;have ha:=Aa hc hb;clear hr he hb;obtain⟨x0,x1,x2,x3,x4,x5⟩:=D.six';obtain⟨f0,f1,f2,f3,f4,f5⟩:=fz6 D;go_wp2;obtain⟨W8,hh,W0,hg⟩:=AU D (.int .i64 0) (.int .i64 0) (.slice none 0 0) (.slice none 0 0) (.slice none 0 0) (.slice none 0 0);rw[<-hh];clear hh;refine YW (ad_ rfl _ W8 (w.heap.size+2) _ _ _ _ _ rfl W0 underlying28 rfl (by kernel_rfl) rfl) rfl ?_;exact⟨⟨_,1,rfl,rfl,⟨[],mr_ _ _⟩,k7_⟩,ha.grown hg ha.size (fun j e=>by cases e;omega)⟩
 ·have hq:Hid (R=(c,p)):=by show _=_;rw[<-hR.out];unfold Bz;rw[hp,if_pos rfl];exact hS
  clear hR hS;have hr:=fun ob=>Am (w:=w1) ob hE.pool;unfold Ej BJ
  go_wp2_with fail
  have he:Below w1.heap.size w1 (w1.alloc (.cells #[.int .i64 0,.int .i64 0,.slice none 0 0,.slice none 0 0,.slice none 0 0,.slice none 0 0] 28)):=(Yg _ _).alloc (Zd _) _;have hw:=hE.below he;obtain⟨ca,ta,hD⟩:=hw.blks a hC;obtain⟨cb,tb,hF⟩:=hw.blk;refine (jH_ c a ep ca cb ta tb _ (hE.ne a hC) hD hF).mono ?_;rintro e w2 ⟨rfl,hb⟩;replace hb:=Aa he hb;replace C:=C.below hb;replace D:=D.below hb;replace hE:=hE.below hb;have ha:=Aa hc hb;have hI:w.heap.size+3<=w2.heap.size:=Zl hG hb.size;clear hr he hb hw hD hF hc hG
  go_wp2_with fail
  have hj:Below w2.heap.size w2 (w2.alloc (.cells #[.int .i64 0,.nilIface] 63)):=(Yg _ _).alloc (Zd _) _;have X:=Blk.new w2 #[.int .i64 0,.nilIface] 63;replace C:=C.below hj;replace D:=D.below hj;replace hE:=hE.below hj;have hf:=Aa ha hj;have hJ:=hj.size;generalize w2.alloc (.cells #[.int .i64 0,.nilIface] 63)=w3 at *;refine (qi_ c a w2.heap.size _ _ w3 hE.ty X).mono ?_;rintro e w4 ⟨rfl,X4,g4⟩;have C4:=C.grown g4 (by omega);have D4:=D.grown g4 (by omega);have hn:=hf.grown g4 hf.size (fun j e=>by cases e;omega);have hM:=g4.size;clear C D X hj ha hE;obtain⟨c0,c1,c2,c3,c4,c5⟩:=C4.six';have k0:w4.cell? ⟨w2.heap.size,0,none⟩=some (.int .i64 c):=X4.cell 0
  go_wp2_with fail
  have hB:∀ u:World,Below w4.heap.size w4 u->(u.cell? ⟨w.heap.size,0,none⟩=some (.int .i64 p.size)∧u.cell? ⟨w.heap.size,1,none⟩=some (.int .i64 p.next)∧u.cell? ⟨w.heap.size,2,none⟩=some (.slice ea en ec)∧u.cell? ⟨w.heap.size,3,none⟩=some (.slice va vn vc)∧u.cell? ⟨w.heap.size,4,none⟩=some (.slice ra rn rc)∧u.cell? ⟨w.heap.size,5,none⟩=some (.slice la ln lc))∧u.cell? ⟨w2.heap.size,0,none⟩=some (.int .i64 c):=fun u hu=>⟨(C4.below hu).six',Ab hu k0⟩;clear c0 c1 c2 c3 c4 c5;have hL:(fun u:World=>(u.cell? ⟨w.heap.size,0,none⟩=some (.int .i64 p.size)∧u.cell? ⟨w.heap.size,1,none⟩=some (.int .i64 p.next)∧u.cell? ⟨w.heap.size,2,none⟩=some (.slice ea en ec)∧u.cell? ⟨w.heap.size,3,none⟩=some (.slice va vn vc)∧u.cell? ⟨w.heap.size,4,none⟩=some (.slice ra rn rc)∧u.cell? ⟨w.heap.size,5,none⟩=some (.slice la ln lc))∧u.cell? ⟨w2.heap.size,0,none⟩=some (.int .i64 c)) w4.drew:=(hB _ (Yg _ _).drew);refine aC_ (S:=(fun u:World=>(u.cell? ⟨w.heap.size,0,none⟩=some (.int .i64 p.size)∧u.cell? ⟨w.heap.size,1,none⟩=some (.int .i64 p.next)∧u.cell? ⟨w.heap.size,2,none⟩=some (.slice ea en ec)∧u.cell? ⟨w.heap.size,3,none⟩=some (.slice va vn vc)∧u.cell? ⟨w.heap.size,4,none⟩=some (.slice ra rn rc)∧u.cell? ⟨w.heap.size,5,none⟩=some (.slice la ln lc))∧u.cell? ⟨w2.heap.size,0,none⟩=some (.int .i64 c))) 6 (by kernel_rfl) rfl ?_;refine tk 0 ?_ (hy:=by intro u hu;obtain⟨⟨u0,u1,u2,u3,u4,u5⟩,u6⟩:=hu;go_simp<;>with_reducible rfl);refine tk 2 ?_;refine tk 3 ?_ (hy:=by intro u hu;obtain⟨⟨u0,u1,u2,u3,u4,u5⟩,u6⟩:=hu;go_simp<;>with_reducible rfl);refine AW (i:=1) (by kernel_rfl) rfl (fun K hK=>?_);go_simp;refine (ff_ B0 hB0 _ p w4.drew (hA.below hn.drew) (m2_ hd)).mono ?_;rintro e w5 ⟨⟨v',rows,rfl,PU⟩,hv⟩;have hk:Below w4.heap.size w4 w5:=Aa (Yg _ w4).drew hv;have PT:=PU;obtain⟨ea',en',ec',va',vn',vc',ra',rn',rc',la',ln',lc',rfl,_⟩:=PU;have D5:=D4.below hk;have ho:=Aa hn hk;have hN:=hk.size;dsimp only;refine hK.out _ _ (hB _ hk) (fun hHeld=>?_);clear hK K
  try simp only[Act.put,lsA,lsB,lsC]
  obtain⟨x0,x1,x2,x3,x4,x5⟩:=D5.six';obtain⟨f0,f1,f2,f3,f4,f5⟩:=fz6 D5;refine AW (i:=4) (by kernel_rfl) rfl (fun K hK=>?_);go_simp;obtain⟨W8,hh,W0,hg⟩:=AU D5 (.int .i64 p.size) (.int .i64 p.next) (.slice ea' en' ec') (.slice va' vn' vc') (.slice ra' rn' rc') (.slice la' ln' lc');rw[<-hh];clear hh;have PF:=(PT.tyP hg (aa_ D5)).mono (show w.heap.size<=w4.heap.size by omega);have C6:=(C4.below hk).grown hg (by omega);have X6:=(X4.below hk).grown hg (by omega);refine hK.out _ _ ⟨C6.six',X6.cell 0⟩ (fun hHeld=>?_);clear hK K
  try simp only[Act.put,lsA,lsB,lsC]
  refine tk 5 ?_;refine wpAnyH_done (by kernel_rfl) ?_ _;go_wp2;refine YW (ad_ rfl _ W8 (w.heap.size+2) _ _ _ _ _ rfl W0 underlying28 rfl (by kernel_rfl) rfl) rfl ?_;rw[hq.out];exact⟨⟨_,c,rfl,rfl,⟨_,PF⟩,hd⟩,ho.grown hg ho.size (fun j e=>by cases e;omega)⟩
 ·have hq:Hid (R=(0,q)):=by show _=_;rw[<-hR.out];unfold Bz;rw[hp,if_pos rfl];exact hS
  clear hR hS;have hz:=PT;obtain⟨ea',en',ec',va',vn',vc',ra',rn',rc',la',ln',lc',rfl,_⟩:=PT;have hr:=fun ob=>Am (w:=w1) ob hE.pool
  go_wp2_with fail
  have he:Below w1.heap.size w1 (w1.alloc (.cells #[.int .i64 q.size,.int .i64 q.next,.slice ea' en' ec',.slice va' vn' vc',.slice ra' rn' rc',.slice la' ln' lc'] 28)):=(Yg _ _).alloc (Zd _) _;have Q:=Blk.new w1 #[.int .i64 q.size,.int .i64 q.next,.slice ea' en' ec',.slice va' vn' vc',.slice ra' rn' rc',.slice la' ln' lc'] 28;replace D:=D.below he;have ht:=hz.below he;have ha:=Aa hc he;have hI:=he.size;clear hr hz hc;generalize w1.alloc (.cells #[.int .i64 q.size,.int .i64 q.next,.slice ea' en' ec',.slice va' vn' vc',.slice ra' rn' rc',.slice la' ln' lc'] 28)=w2 at *;refine (qg_ ep w2).mono ?_;rintro e w3 ⟨rfl,rfl⟩
  go_wp2_with fail
  have hm:Below w3.heap.size w3 (w3.alloc (.cells #[.int .i64 0,.nilIface] 63)):=(Yg _ _).alloc (Zd _) _;replace D:=D.below hm;replace Q:=Q.below hm;replace ht:=ht.below hm;have hf:=Aa ha hm;have hJ:=hm.size;generalize w3.alloc (.cells #[.int .i64 0,.nilIface] 63)=w4 at *;refine (qh_ _ w4).mono ?_;rintro e w5 ⟨rfl,rfl⟩;obtain⟨y0,y1,y2,y3,y4,y5⟩:=Q.six';obtain⟨x0,x1,x2,x3,x4,x5⟩:=D.six';obtain⟨f0,f1,f2,f3,f4,f5⟩:=fz6 D;go_wp2;obtain⟨W8,hh,W0,hg⟩:=AU D (.int .i64 q.size) (.int .i64 q.next) (.slice ea' en' ec') (.slice va' vn' vc') (.slice ra' rn' rc') (.slice la' ln' lc');have PF:=(ht.tyP hg (aa_ D)).mono (show w.heap.size<=_ by simp;omega);rw[<-hh];clear hh;refine YW (ad_ rfl _ W8 (w.heap.size+2) _ _ _ _ _ rfl W0 underlying28 rfl (by kernel_rfl) rfl) rfl ?_;rw[hq.out];exact⟨⟨_,0,rfl,rfl,⟨_,PF⟩,hH⟩,hf.grown hg hf.size (fun j e=>by cases e;omega)⟩
end
end Go.Proofs.YtdmeabghpchckaaGreatDoor
