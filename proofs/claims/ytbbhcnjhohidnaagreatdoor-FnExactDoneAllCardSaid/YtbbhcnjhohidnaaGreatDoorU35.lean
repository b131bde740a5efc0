/- Ops that are done when they are tried, by the model. -/
import Derived.Stop.Asserts
import Derived.Test.YtbbhcnjhohidnaaGreatDoorU34
set_option maxHeartbeats 20000000
set_option maxRecDepth 100000
namespace Go.Proofs.YtbbhcnjhohidnaaGreatDoor
section
open Go Go.RowKit Go.BigFrame Tryz
variable{file:ByteArray}{rows:List VR}{l:List Vo}{B i:Nat}{p q:Po}{v:Value}{y:Vo}{w w':World}
theorem BK.below (h:BK B w v p rows)(hb:Below w.heap.size w w'):BK B w' v p rows:=by
 obtain⟨ea,en,ec,va,vn,vc,ra,rn,rc,la,ln,lc,hv,h1,⟨h2,h3⟩,h4,h5,h6,h7,h8⟩:=h;exact⟨ea,en,ec,va,vn,vc,ra,rn,rc,la,ln,lc,hv,h1.below hb,⟨h2.below hb,h3.below hb⟩,h4.below hb,h5.below hb,h6,h7,dc_ h3 h8 hb⟩
theorem BK.mono {B':Nat}(h:BK B w v p rows)(hb:B'<=B):BK B' w v p rows:=by
 obtain⟨ea,en,ec,va,vn,vc,ra,rn,rc,la,ln,lc,hv,h1,⟨h2,h3⟩,h4,h5,h6,h7,h8⟩:=h;exact⟨ea,en,ec,va,vn,vc,ra,rn,rc,la,ln,lc,hv,h1.mono hb,⟨h2.mono hb,h3.mono hb⟩,h4.mono hb,h5.mono hb,h6,h7,h8⟩
theorem BK.tyP {row:Option Nat}(h:BK B w v p rows)(hg:w.grownBy w' row)(hr:Bt w row 35):BK B w' v p rows:=by
 obtain⟨ea,en,ec,va,vn,vc,ra,rn,rc,la,ln,lc,hv,h1,⟨h2,h3⟩,h4,h5,h6,h7,h8⟩:=h;exact⟨ea,en,ec,va,vn,vc,ra,rn,rc,la,ln,lc,hv,h1.ty hg hr (by decide),⟨h2.ty hg hr (by decide),h3.ty hg hr (by decide) (by decide)⟩,h4.ty hg hr (by decide),h5.ty hg hr (by decide),h6,h7,kp_ h3 h8 hg hr (by decide)⟩
def Gn (p:Po):Int⊕Po->Int⊕Po
 |.inl c=>.inl c
 |.inr q=>if Aj (A5 p q)=true then .inr (A5 p q) else .inl 5
def FI (p:Po)(o:Opr):Int⊕Po:=Gn p (CZ p o.k o.vol o.file o.to o.into o.at' o.fr o.ln o.data)
theorem li_ (ep:Addr)(B0:Nat)(v:Value)(p:Po)(o:Opr)(w:World)(h:AA B0 w v p)(hd:Ax p)(hp:Aj p=false)(hep:BC w 0 ep):
  Calls prog 31 #[v,.agg #[.int .i64 o.k,.string o.vol,.string o.file,.string o.to,.string o.into,.int .i64 o.at',.int .i64 o.fr,.int .i64 o.ln,.string o.data]] w fun e w'=>e=.returned (.tuple #[Dq,BJ 1 ep])∧Below w.heap.size w w':=by
 have hh:=h;obtain⟨ea,en,ec,va,vn,vc,ra,rn,rc,la,ln,lc,rfl,_⟩:=h;go_enter func31,ntmps31
 go_wp2_with fail
 refine (ch_ B0 _ p _ (hh.below (by go_grown)) hd).mono ?_;rintro e w1 ⟨rfl,he⟩;obtain⟨C,O,D,ha,hk⟩:=bx3 he;clear he;have hq:=hep.below ha;rw[hp];have hb:w1.drew.cell? ⟨0,0,none⟩=some (.iface 315 (.pointer (some ep))):=hq;have DD:Blk w1.drew (w.heap.size+2) #[.int .i64 0,.int .i64 0,.slice none 0 0,.slice none 0 0,.slice none 0 0,.slice none 0 0] 35:=D;have BB:Below w.heap.size w w1.drew:=ha.drew
 go_wp2_with fail
 have hj:(fun u:World=>u.cell? ⟨0,0,none⟩=some (.iface 315 (.pointer (some ep)))) w1.drew:=hb;refine aC_ (S:=(fun u:World=>u.cell? ⟨0,0,none⟩=some (.iface 315 (.pointer (some ep))))) 6 (by kernel_rfl) rfl ?_;generalize w1.drew=wd at DD BB hb hj ⊢;obtain⟨x0,x1,x2,x3,x4,x5⟩:=DD.six';obtain⟨f0,f1,f2,f3,f4,f5⟩:=fz6 DD;refine tk 0 ?_;refine tk 1 ?_;refine tk 2 ?_;refine tk 3 ?_;refine A7 (i:=4) (by kernel_rfl) rfl (fun K hK=>?_);go_simp;obtain⟨W8,hf,W0,hg⟩:=AT DD (.int .i64 0) (.int .i64 0) (.slice none 0 0) (.slice none 0 0) (.slice none 0 0) (.slice none 0 0);rw[<-hf];clear hf;have hc:=hg.cell hb (by simp only[ne_eq,Zo];omega);refine hK.out _ _ hc (fun hHeld=>?_);clear hK K
 try simp only[Act.put,lsA,lsB,lsC]
 refine tk 5 ?_;refine wpAnyH_done (by kernel_rfl) ?_ _;go_wp2;refine YW (ad_ rfl _ W8 (w.heap.size+2) _ _ _ _ _ rfl W0 underlying35 rfl (by kernel_rfl) rfl) rfl ?_;exact⟨rfl,BB.grown hg BB.size (fun j e=>by cases e;omega)⟩
theorem AW.below {b n:Nat}{f:Ow->Int}(h:AW w b n f)(hb:Below w.heap.size w w'):AW w' b n f:=h.kept (row:=none) ⟨hb.os,hb.tape,hb.output,hb.size,fun k hk _=>hb.block k hk⟩ (by simp)
theorem fG_:∀ {l:List Ct} {c:Ct},By l->c∈l->tot c.o l=c.n
 |[],_,_,h=>by cases h
 |y::r,c,hr,h=>by
  have h1:=(Ye.1 hr).1;simp only[tot];rcases Zn.1 h with rfl | h
  ·rw[a3_,if_pos rfl,cc_ h1];omega
  ·rw[dA_ (h1 c h),fG_ hr.of_cons h];simp
theorem m1_ (h:DW l):∀ c∈Az l,0<=c.n∧c.n<=42000:=fun c hc=>by
 obtain⟨h1,_,h3⟩:=bR_ l;have e:=fG_ h1 hc;rw[h3] at e;have h4:=cy_ (fZ_ l) c.o;have h5:=fF_ (l:=l) (fun v hv=>⟨(h.2 v hv).1,fun x hx=>((h.2 v hv).2 x hx).1⟩);have h6:=h.1;omega
theorem qe_ {l:List Ct}{M:Int}(h:∀ c∈l,0<=c.n∧c.n<=M)(hr:By l)(o:Ow):0<=tot o l∧(tot o l<=M∨tot o l=0):=by
 by_cases hc:∃ c∈l,c.o=o
 ·obtain⟨c,hm,rfl⟩:=hc;rw[fG_ hr hm];exact⟨(h c hm).1,.inl (h c hm).2⟩
 ·rw[bB_ (fun c hm e=>hc ⟨c,hm,e⟩)];exact⟨YB _,.inr rfl⟩
theorem hd_ (h:WfV l):WfC (Az l):=fun c hc=>by
 rcases eI_ hc with⟨d,hd,_⟩ | ⟨d,hd,e⟩
 ·cases hd
 ·rw[e];exact hN_ h d hd
theorem qf_ {l:List Ct}(h:WfC l):WfC (Cg l):=fun c hc=>by
 obtain⟨d,hd,rfl⟩:=ZT.1 hc;exact h d hd
theorem m2_ (h:Ax p):G1 p:=by
 obtain⟨z1,z2,z3,z4,z5,z6,z7,z8⟩:=h;exact⟨z1,z3,z5,z7,fun v hv=>⟨(z4 v hv).2.1,fun y hy=>((z4 v hv).2.2 y hy).2⟩⟩
theorem mq_ (ep:Addr)(B0:Nat)(v:Value)(p:Po)(o:Opr)(w:World)(h:AA B0 w v p)(hd:Ax p)(hp:Aj p=true)(ho:opB o=false)(hso:Bu o)(hep:BC w 1 ep):
  Calls prog 31 #[v,.agg #[.int .i64 o.k,.string o.vol,.string o.file,.string o.to,.string o.into,.int .i64 o.at',.int .i64 o.fr,.int .i64 o.ln,.string o.data]] w fun e w'=>e=.returned (.tuple #[Dq,BJ 2 ep])∧Below w.heap.size w w':=by
 have hk:=h;obtain⟨ea,en,ec,va,vn,vc,ra,rn,rc,la,ln,lc,rfl,_⟩:=h;go_enter func31,ntmps31
 go_wp2_with fail
 refine (ch_ B0 _ p _ (hk.below (by go_grown)) hd).mono ?_;rintro e w1 ⟨rfl,hg⟩;obtain⟨C,O,D,ha,hm⟩:=bx3 hg;clear hg;rw[hp];have o0:=O.cell 0;have o1:=O.cell 1;have o2:=O.cell 2;have o3:=O.cell 3;have o4:=O.cell 4;have o5:=O.cell 5;have o6:=O.cell 6;have o7:=O.cell 7;have o8:=O.cell 8;simp only[lgA,lgB,lgC] at o0 o1 o2 o3 o4 o5 o6 o7 o8
 go_wp2_with fail
 refine (iO_ o _ hso).mono ?_;rintro e w2 ⟨rfl,hb⟩;replace D:=D.below hb;have hq:=hep.below (Aa ha hb);have hc:=Aa ha hb;rw[ho];have he:w2.drew.cell? ⟨1,0,none⟩=some (.iface 315 (.pointer (some ep))):=hq;have DD:Blk w2.drew (w.heap.size+2) #[.int .i64 0,.int .i64 0,.slice none 0 0,.slice none 0 0,.slice none 0 0,.slice none 0 0] 35:=D;have BB:Below w.heap.size w w2.drew:=hc.drew
 go_wp2_with fail
 have hl:(fun u:World=>u.cell? ⟨1,0,none⟩=some (.iface 315 (.pointer (some ep)))) w2.drew:=he;refine aC_ (S:=(fun u:World=>u.cell? ⟨1,0,none⟩=some (.iface 315 (.pointer (some ep))))) 6 (by kernel_rfl) rfl ?_;generalize w2.drew=wd at DD BB he hl ⊢;obtain⟨x0,x1,x2,x3,x4,x5⟩:=DD.six';obtain⟨f0,f1,f2,f3,f4,f5⟩:=fz6 DD;refine tk 0 ?_;refine tk 1 ?_;refine tk 2 ?_;refine tk 3 ?_;refine A7 (i:=4) (by kernel_rfl) rfl (fun K hK=>?_);go_simp;obtain⟨W8,hh,W0,hj⟩:=AT DD (.int .i64 0) (.int .i64 0) (.slice none 0 0) (.slice none 0 0) (.slice none 0 0) (.slice none 0 0);rw[<-hh];clear hh;have hf:=hj.cell he (by simp only[ne_eq,Zo];omega);refine hK.out _ _ hf (fun hHeld=>?_);clear hK K
 try simp only[Act.put,lsA,lsB,lsC]
 refine tk 5 ?_;refine wpAnyH_done (by kernel_rfl) ?_ _;go_wp2;refine YW (ad_ rfl _ W8 (w.heap.size+2) _ _ _ _ _ rfl W0 underlying35 rfl (by kernel_rfl) rfl) rfl ?_;exact⟨rfl,BB.grown hj BB.size (fun j e=>by cases e;omega)⟩
end
section
open Go Go.RowKit Go.BigFrame Tryz
theorem nT_ (S:Addr->Prop)(B0:Nat)(hB0:0<B0)(v:Value)(p:Po)(o:Opr)(w:World)(h:AA B0 w v p)(hd:Ax p)(hp:Aj p=true)(ho:opB o=true)(hso:Bu o)(hS:BO S w)(hgl:11<=w.heap.size):
  Calls prog 31 #[v,.agg #[.int .i64 o.k,.string o.vol,.string o.file,.string o.to,.string o.into,.int .i64 o.at',.int .i64 o.fr,.int .i64 o.ln,.string o.data]] w fun e w'=>Hv S w.heap.size e w' (FI p o)∧Below w.heap.size w w':=by
 obtain⟨R,hR⟩:∃ R,Hid (CZ p o.k o.vol o.file o.to o.into o.at' o.fr o.ln o.data=R):=⟨_,rfl⟩;obtain⟨h5,h4⟩:=pP_ ho;have hA:Hid (FI p o=Gn p R):=by show _=_;unfold FI;rw[hR.out]
 generalize FI p o=RA at *;have hP:=h;obtain⟨ea,en,ec,va,vn,vc,ra,rn,rc,la,ln,lc,rfl,_⟩:=h;go_enter func31,ntmps31
 go_wp2_with fail
 refine (ch_ B0 _ p _ (hP.below (by go_grown)) hd).mono ?_;rintro e w1 ⟨rfl,hX⟩;obtain⟨C,O,D,hC,h9⟩:=bx3 hX;clear hX;rw[hp];have o0:=O.cell 0;have o1:=O.cell 1;have o2:=O.cell 2;have o3:=O.cell 3;have o4:=O.cell 4;have o5:=O.cell 5;have o6:=O.cell 6;have o7:=O.cell 7;have o8:=O.cell 8;simp only[lgA,lgB,lgC] at o0 o1 o2 o3 o4 o5 o6 o7 o8
 go_wp2_with fail
 refine (iO_ o _ hso).mono ?_;rintro e w2 ⟨rfl,hr⟩;replace C:=C.below hr;replace O:=O.below hr;replace D:=D.below hr;have hD:=Aa hC hr;have qt:w.heap.size+3<=w2.heap.size:=Zl h9 hr.size;rw[ho];clear o0 o1 o2 o3 o4 o5 o6 o7 o8 hr hC h9;obtain⟨c0,c1,c2,c3,c4,c5⟩:=C.six'
 go_wp2_with fail
 refine (ff_ B0 hB0 _ p w2 (hP.below hD) (m2_ hd)).mono ?_;rintro e w3 ⟨⟨v',rows,rfl,PU⟩,hs⟩;obtain⟨ea',en',ec',va',vn',vc',ra',rn',rc',la',ln',lc',rfl,hf⟩:=PU.own;clear PU;replace C:=C.below hs;replace O:=O.below hs;replace D:=D.below hs;have hE:=Aa hD hs;have qj:w2.heap.size<=w3.heap.size:=hs.size;clear c0 c1 c2 c3 c4 c5 hs;have o0:=O.cell 0;have o1:=O.cell 1;have o2:=O.cell 2;have o3:=O.cell 3;have o4:=O.cell 4;have o5:=O.cell 5;have o6:=O.cell 6;have o7:=O.cell 7;have o8:=O.cell 8;simp only[lgA,lgB,lgC] at o0 o1 o2 o3 o4 o5 o6 o7 o8;replace o0:=fun ob=>Ah (w:=w3) ob o0;replace o1:=fun ob=>Ah (w:=w3) ob o1;replace o2:=fun ob=>Ah (w:=w3) ob o2;replace o3:=fun ob=>Ah (w:=w3) ob o3;replace o4:=fun ob=>Ah (w:=w3) ob o4;replace o5:=fun ob=>Ah (w:=w3) ob o5;replace o6:=fun ob=>Ah (w:=w3) ob o6;replace o7:=fun ob=>Ah (w:=w3) ob o7;replace o8:=fun ob=>Ah (w:=w3) ob o8
 go_wp2_with fail
 have hw:Below w3.heap.size w3 (w3.alloc (.cells #[.int .i64 p.size,.int .i64 p.next,.slice ea' en' ec',.slice va' vn' vc',.slice ra' rn' rc',.slice la' ln' lc'] 35)):=(Yg _ _).alloc (Zd _) _;replace C:=C.below hw;replace D:=D.below hw;have hF:=Aa hE hw;have qu:=hw.size;clear o0 o1 o2 o3 o4 o5 o6 o7 o8 hE O hw;generalize w3.alloc (.cells #[.int .i64 p.size,.int .i64 p.next,.slice ea' en' ec',.slice va' vn' vc',.slice ra' rn' rc',.slice la' ln' lc'] 35)=w4 at *;refine (jA_ o.k o.vol o.file o.to o.into o.at' o.fr o.ln o.data w4 h4).mono ?_;rintro e w5 ⟨rfl,ht⟩;replace C:=C.below ht;replace D:=D.below ht;replace hf:=hf.below ht;have hk:=Aa hF ht;have qv:=ht.size;clear hF ht
 go_wp2_with fail
 refine (iv_ S w2.heap.size w3.heap.size (by omega) p ea' en' ec' va' vn' vc' ra' rn' rc' la' ln' lc' rows o.k o.vol o.file o.to o.into o.at' o.fr o.ln o.data qj (by omega) (pO_ hp hd) h5 w5 (by omega) hf (hS.below hk)).mono ?_;rintro e w6 hm;rw[hR.out] at hm
 cases R with
 |inl c=>
  obtain⟨⟨a,qd,rfl⟩,hh⟩:=hm;have D6:Blk w6 (w.heap.size+2) #[.int .i64 0,.int .i64 0,.slice none 0 0,.slice none 0 0,.slice none 0 0,.slice none 0 0] 35:=(hh.block _ (by omega)).trans D;have hb:=Eb hk hh (by omega);obtain⟨x0,x1,x2,x3,x4,x5⟩:=D6.six';obtain⟨f0,f1,f2,f3,f4,f5⟩:=fz6 D6;unfold BJ;go_wp2;obtain⟨W8,hj,W0,hl⟩:=AT D6 (.int .i64 0) (.int .i64 0) (.slice none 0 0) (.slice none 0 0) (.slice none 0 0) (.slice none 0 0);rw[<-hj];clear hj;refine YW (ad_ rfl _ W8 (w.heap.size+2) _ _ _ _ _ rfl W0 underlying35 rfl (by kernel_rfl) rfl) rfl ?_;rw[hA.out];exact⟨⟨a,qd,rfl⟩,hb.grown hl hb.size (fun j e=>by cases e;omega)⟩
 |inr q=>
  obtain⟨rfl,⟨e2a,e2n,e2c,v2a,v2n,v2c,r2a,r2n,r2c,l2a,l2n,l2c,rowsR,X,R1,R2,T2,R3,R4,qe,qc,NV⟩,hh⟩:=hm;replace hA:Hid (RA=if Aj (A5 p q)=true then .inr (A5 p q) else .inl 5):=hA;have hq:CE q:=pU_ hp hd ho hR.out;have C6:Blk w6 w.heap.size _ _:=(hh.block _ (by omega)).trans C;have D6:Blk w6 (w.heap.size+2) _ _:=(hh.block _ (by omega)).trans D;have hb:=Eb hk hh (by omega);have qw:=hh.size
  obtain⟨vb,qa⟩:∃ vb,0<v2n->v2a=some ⟨vb,0,none⟩:=by
   rcases R2.own with⟨h1,h2,h3⟩ | ⟨b,h1,_⟩
   ·exact⟨0,fun h=>absurd h (by omega)⟩
   ·exact⟨b,fun _=>h1⟩
  have ql:v2n<=4194304:=by have h1:=R2.sl.len;have h2:=T2.len;have h3:=hq.vn;omega
  have h8:=m1_ hq.wide;have qh:=m1_ (aQ_ hp).2.2.1.wide;clear hR h4 h5 C D hf hh;obtain⟨x0,x1,x2,x3,x4,x5⟩:=X.six';replace x0:=fun ob=>Ah (w:=w6) ob x0;replace x1:=fun ob=>Ah (w:=w6) ob x1;replace x2:=fun ob=>Ah (w:=w6) ob x2;replace x3:=fun ob=>Ah (w:=w6) ob x3;replace x4:=fun ob=>Ah (w:=w6) ob x4;replace x5:=fun ob=>Ah (w:=w6) ob x5;have qs:=@run_makeMap prog
  go_wp2_with fail
  have T0:=AW.made w6;have hI:Below w6.heap.size w6 (w6.alloc (.map #[] 0)):=(Yg _ _).alloc (Zd _) _;clear x0 x1 x2 x3 x4 x5;generalize w6.alloc (.map #[] 0)=w7 at *;refine (bC_ w2.heap.size q.size q.next e2a e2n e2c v2a v2n v2c r2a r2n r2c l2a l2n l2c q.vs vb 0 qa w7 ((B9.vs R2 T2.rows).below hI) ql hq.str).mono ?_;rintro e w8 ⟨⟨mb,Dm,rfl,qg,hY,h0⟩,hv⟩;replace T0:=T0.below hv;replace hv:=Aa hI hv
  go_wp2_with fail
  refine (lg_ w2.heap.size mb vb 0 Dm v2a v2n q.vs qa w8 hY h0 hq.nd ((B9.vs R2 T2.rows).below hv) hq.wide hq.wf).mono ?_;rintro e w9 ⟨⟨fa,fn,fc,rfl,qp,RF⟩,hy⟩;replace T0:=T0.below hy;replace hy:=Aa hv hy;clear h0 hY hv hI qg
  go_wp2_with fail
  refine (dF_ w6.heap.size 0 (fun _=>0) fa fn fc (Az q.vs) w9 T0 RF.sl (hd_ hq.wf) (by omega) (by omega) (fun x hx=>by have:=h8 x hx;omega) (fun o=>by omega)).mono ?_;rintro e wA ⟨rfl,TA,gA⟩;have hH:=ao_ hy gA (Zd _);clear gA T0 RF hy;obtain⟨c0,c1,c2,c3,c4,c5⟩:=(C6.below hH).six'
  go_wp2_with fail
  refine (kY_ B0 _ p wA (hP.below (Aa hb hH)) hd).mono ?_;rintro e wB ⟨⟨ka,kn,kc,rfl,qq,RK⟩,hz⟩;have qb:Cb p=Az p.vs:=by unfold Cb;rw[if_pos hp]
  rw[qb] at RK;replace TA:=TA.below hz;replace hz:=Aa hH hz;clear c0 c1 c2 c3 c4 c5 hH qb
  go_wp2_with fail
  refine (jz_ w6.heap.size (0+fn) _ ka kn kc (Az p.vs) wB TA RK.sl (hd_ (ib_ hp hd).wf) (by omega) (by omega) (fun x hx=>by have:=qh x hx;omega) (fun o=>by have h1:=qe_ h8 (bR_ q.vs).1 o;omega)).mono ?_;rintro e wC ⟨rfl,TC,gC⟩;have hJ:=ao_ hz gC (Zd _);have qx:=hJ.size;clear gC TA RK hz;have XC:=X.below hJ;obtain⟨y0,y1,y2,y3,y4,y5⟩:=XC.six'
  go_wp2_with fail
  have y5':wC.drew.cell? ⟨w3.heap.size,5,none⟩=some (.slice l2a l2n l2c):=y5;have hZ:∀ u:World,Below wC.heap.size wC u->u.cell? ⟨w3.heap.size,5,none⟩=some (.slice l2a l2n l2c):=fun u hu=>Ab hu y5;clear y0 y1 y2 y3 y4 y5;have hQ:(fun u:World=>u.cell? ⟨w3.heap.size,5,none⟩=some (.slice l2a l2n l2c)) wC.drew:=y5';refine ar_ (S:=(fun u:World=>u.cell? ⟨w3.heap.size,5,none⟩=some (.slice l2a l2n l2c))) 6 (by kernel_rfl) (by kernel_rfl) ?_;refine tk 0 ?_;refine tk 1 ?_;refine tk 2 ?_;refine A7 (i:=3) (by kernel_rfl) rfl (fun K hK=>?_);go_simp;refine (dG_ w6.heap.size (0+fn+kn) _ wC.drew TC (by omega)).mono ?_;rintro e wD ⟨⟨sa,sn,sc,L,rfl,qC,RS,q1,q2,q3,q4⟩,hN⟩;have hM:Below wC.heap.size wC wD:=Aa (Yg _ wC).drew hN;have hL:L=AQ (Az q.vs) (Cg (Az p.vs)):=g6_ q1 q2 q3 (fun o ho=>by rw[q4 o ho,ia_];omega) (bR_ q.vs).1 (bR_ q.vs).2.1 (oZ_ (bR_ p.vs).2.1) (hd_ hq.wf) (qf_ (hd_ (ib_ hp hd).wf));subst hL;have qy:=hM.size;have ha:=Aa hJ hM;dsimp only;refine hK.out _ _ (hZ _ hM) (fun hHeld=>?_);clear hK K
  try simp only[Act.put,lsA,lsB,lsC]
  refine A7 (i:=4) (by kernel_rfl) rfl (fun K hK=>?_);obtain⟨i0,hi,qm,qn,qo⟩:=info_parts CK;have qr:l2n<=200:=by rw[<-R4.sl.len];exact hq.ll
  refine aJ_ rfl (jE_ _ _ _ rfl w2.heap.size _ i0 _ 40 hi qm qn qo underlying33 rfl (by decide) aS_ a9_ l2a l2n l2c q.lt rfl (R4.below ha) sa sn sc (AQ (Az q.vs) (Cg (Az p.vs))) rfl RS.sl (RS.hd.2.2 (show 0<wC.heap.size by omega)).2 (RS.hd.2.2 (show 0<wC.heap.size by omega)).1 r2a r2n r2c q.rf (R3.below ha) qe (l2n+sn) rfl (by unfold maxLen;omega) (by omega) (by omega) ?_);intro a10 cap10 wE row RL RR hg hn hW hT;have XA:=(X.below ha).ty hg hn (by decide);have CA:=(C6.below ha).ty hg hn (by decide);have DA:=(D6.below ha).ty hg hn (by decide);have E1:=(R1.below ha).ty hg hn (by decide);have E2:=(R2.below ha).ty hg hn (by decide);have E3:=(T2.below ha).ty hg hn (by decide) (by decide);have NE:=kp_ (T2.below ha) (dc_ T2 NV ha) hg hn (by decide);have hG:=(Aa hb ha).grown hg (Aa hb ha).size (fun j e=>by have:=hW j e;omega);have qz:=hg.size;refine hK.out _ _ (XA.cell 5) (fun hHeld=>?_);clear hK K
  try simp only[Act.put,lsA,lsB,lsC]
  refine tk 5 ?_;refine wpAnyH_done (by kernel_rfl) ?_ _;refine BV rfl ?_;clear hZ hQ hHeld y5';have hc:=Ba wE w3.heap.size 5 (.slice a10 (l2n+sn) cap10);have XL:Blk (wE.setCell ⟨w3.heap.size,5,none⟩ (.slice a10 (l2n+sn) cap10)) w3.heap.size #[.int .i64 q.size,.int .i64 q.next,.slice e2a e2n e2c,.slice v2a v2n v2c,.slice r2a r2n r2c,.slice a10 (l2n+sn) cap10] 35:=by simpa using XA.set 5 (.slice a10 (l2n+sn) cap10)
  have y5:=XA.cell 5;simp only[lgA,lgB,lgC] at y5;have g5:=XA.frozen 5;obtain⟨z0,z1,z2,z3,z4,z5⟩:=XL.six'
  go_wp2_with fail
  have CL:Blk _ w.heap.size _ _:=(hc.block _ CA.lt (by simp only[ne_eq,Zo];omega)).trans CA;have DL:Blk _ (w.heap.size+2) _ _:=(hc.block _ DA.lt (by simp only[ne_eq,Zo];omega)).trans DA;have PTL:BK w2.heap.size (wE.setCell ⟨w3.heap.size,5,none⟩ (.slice a10 (l2n+sn) cap10)) (.agg #[.int .i64 q.size,.int .i64 q.next,.slice e2a e2n e2c,.slice v2a v2n v2c,.slice r2a r2n r2c,.slice a10 (l2n+sn) cap10]) (A5 p q) rowsR:=⟨_,_,_,_,_,_,_,_,_,_,_,_,rfl,E1.ty hc (aa_ XA) (by decide),⟨E2.ty hc (aa_ XA) (by decide),E3.ty hc (aa_ XA) (by decide) (by decide)⟩,RR.ty hc (aa_ XA) (by decide),RL.ty hc (aa_ XA) (by decide),hT,qc,kp_ E3 NE hc (aa_ XA) (by decide)⟩;have h6:Ax (A5 p q):=hq.dim hd (by show (q.lt++AQ _ _).length<=_;rw[RL.sl.len];omega);have hO:=hG.grown hc hG.size (fun j e=>by cases e;omega);have qB:=hc.size;generalize wE.setCell ⟨w3.heap.size,5,none⟩ (.slice a10 (l2n+sn) cap10)=wF at *;refine (ch_ w2.heap.size _ (A5 p q) wF PTL.t.at' h6).mono ?_;rintro e wG ⟨rfl,hB⟩;have XG:=XL.below hB;have DG:=DL.below hB;have he:=Aa hO hB;have qA:=hB.size;have PTG:=PTL.below hB;clear y5 g5 z0 z1 z2 z3 z4 z5 XA CA DA E1 E2 E3 NE RR RL R1 R2 T2 R3 R4 hc XL CL DL PTL
  cases h7:Aj (A5 p q)
  ·rw[h7,if_neg (by simp)] at hA;obtain⟨ea5,qf,qk⟩:=hS.after;have qi:=qf.below he;have hU:wG.drew.cell? ⟨2,0,none⟩=some (.iface 315 (.pointer (some ea5))):=qi;have DD:Blk wG.drew (w.heap.size+2) #[.int .i64 0,.int .i64 0,.slice none 0 0,.slice none 0 0,.slice none 0 0,.slice none 0 0] 35:=DG;have BB:Below w.heap.size w wG.drew:=he.drew
   go_wp2_with fail
   have hQ:(fun u:World=>u.cell? ⟨2,0,none⟩=some (.iface 315 (.pointer (some ea5)))) wG.drew:=hU;refine aC_ (S:=(fun u:World=>u.cell? ⟨2,0,none⟩=some (.iface 315 (.pointer (some ea5))))) 6 (by kernel_rfl) rfl ?_;generalize wG.drew=wd at DD BB hU hQ ⊢;obtain⟨x0,x1,x2,x3,x4,x5⟩:=DD.six';obtain⟨f0,f1,f2,f3,f4,f5⟩:=fz6 DD;refine tk 0 ?_;refine tk 1 ?_;refine tk 2 ?_;refine tk 3 ?_;refine A7 (i:=4) (by kernel_rfl) rfl (fun K hK=>?_);go_simp;obtain⟨W8,hj,W0,hl⟩:=AT DD (.int .i64 0) (.int .i64 0) (.slice none 0 0) (.slice none 0 0) (.slice none 0 0) (.slice none 0 0);rw[<-hj];clear hj;have hV:=hl.cell hU (by simp only[ne_eq,Zo];omega);refine hK.out _ _ hV (fun hHeld=>?_);clear hK K
   try simp only[Act.put,lsA,lsB,lsC]
   refine tk 5 ?_;refine wpAnyH_done (by kernel_rfl) ?_ _;go_wp2;refine YW (ad_ rfl _ W8 (w.heap.size+2) _ _ _ _ _ rfl W0 underlying35 rfl (by kernel_rfl) rfl) rfl ?_;rw[hA.out];exact⟨⟨ea5,qk,rfl⟩,BB.grown hl BB.size (fun j e=>by cases e;omega)⟩
  ·rw[h7,if_pos rfl] at hA;obtain⟨y0,y1,y2,y3,y4,y5⟩:=XG.six';obtain⟨x0,x1,x2,x3,x4,x5⟩:=DG.six';obtain⟨f0,f1,f2,f3,f4,f5⟩:=fz6 DG;go_wp2;obtain⟨W8,hj,W0,hl⟩:=AT DG (.int .i64 q.size) (.int .i64 q.next) (.slice e2a e2n e2c) (.slice v2a v2n v2c) (.slice r2a r2n r2c) (.slice a10 (l2n+sn) cap10);have PF:=(PTG.tyP hl (aa_ DG)).mono (show w.heap.size<=w2.heap.size by omega);rw[<-hj];clear hj;refine YW (ad_ rfl _ W8 (w.heap.size+2) _ _ _ _ _ rfl W0 underlying35 rfl (by kernel_rfl) rfl) rfl ?_;rw[hA.out];exact⟨⟨_,_,rfl,PF,h6⟩,he.grown hl he.size (fun j e=>by cases e;omega)⟩
end
section
open Go.RowKit Go.Extern.Stop Go.Stop Go.Extern Tryz
def Fs:Array Value->Sem Value:=Extern.ReflectliteType.method fun t=>do Rtype.noPackHeld "Comparable" t;pure (.bool (<-typeInfo t).comparable)
theorem Ew (v:Value)(w:World):(Extern.ReflectliteType.typeOf #[.iface 315 v]).run prog w=.ok (.iface 220 (.agg #[.pointer (some ⟨11,315,none⟩)])) w:=by kernel_rfl
theorem CT (w:World):(Fs #[.agg #[.pointer (some ⟨11,315,none⟩)]]).run prog w=.ok (.bool true) w:=by kernel_rfl
theorem B6 (v:Value)(w:World):(Go.method 447 220 v "Comparable").run prog w=.ok (246,v) w:=by kernel_rfl
theorem Ft:(prog.info? 315).map (·.comparable)=some true:=by kernel_rfl
theorem Fw:(prog.info? 335).map (·.size)=some 1:=by kernel_rfl
theorem GI (v:Value)(xT:TypeId)(w:World):(Instr.typeAssert (.iface 315 v) xT 222 true).run prog w=.ok (.tuple #[.nilIface,.bool false]) w:=run_typeAssert_lacksB underlying222 (by kernel_rfl) (by kernel_rfl) v xT w
theorem DY (v:Value)(xT:TypeId)(w:World):(Instr.typeAssert (.iface 315 v) xT 225 true).run prog w=.ok (.tuple #[.nilIface,.bool false]) w:=run_typeAssert_lacksB underlying225 (by kernel_rfl) (by kernel_rfl) v xT w
theorem DN (v:Value)(xT:TypeId)(w:World):(Instr.typeAssert (.iface 315 v) xT 227 true).run prog w=.ok (.tuple #[.nilIface,.bool false]) w:=run_typeAssert_lacksB underlying227 (by kernel_rfl) (by kernel_rfl) v xT w
theorem Gz (v:Value)(xT:TypeId)(w:World):(Instr.typeAssert (.iface 69 v) xT 222 true).run prog w=.ok (.tuple #[.nilIface,.bool false]) w:=run_typeAssert_lacksB underlying222 (by kernel_rfl) (by kernel_rfl) v xT w
theorem DF (v:Value)(xT:TypeId)(w:World):(Instr.typeAssert (.iface 69 v) xT 225 true).run prog w=.ok (.tuple #[.iface 69 v,.bool true]) w:=run_typeAssert_hasB underlying225 (by kernel_rfl) v xT w
theorem CH (v:Value)(w:World):(Go.method 447 69 v "Unwrap").run prog w=.ok (234,v) w:=by kernel_rfl
theorem CJ (v:Value)(w:World):(callFunc 234 #[v]).run prog w=.ok (.enter 234 #[v]) w:=by kernel_rfl
theorem qg_ (b:Addr)(w:World):
  Calls prog 32 #[.nilIface,.iface 315 (.pointer (some b))] w fun e w'=>e=.returned (.bool false)∧w'=w:=by
 have hn:=run_eql_iface_nil_left (P:=prog) w 315 (.pointer (some b)) underlying64;go_enter func32,ntmps32;go_wp2;go_ret;exact⟨rfl,rfl⟩
theorem lj_ (c:Int)(b:Addr)(w:World):
  Calls prog 32 #[.iface 69 (.agg #[.int .i64 c,.iface 315 (.pointer (some b))]),.iface 315 (.pointer (some b))] w fun e w'=>e=.returned (.bool true)∧Below w.heap.size w w':=by
 obtain⟨i,hi,ha⟩:=ZW.1 Ft;obtain⟨j,hj,he⟩:=ZW.1 Fw;have h8:=@YX prog 76 _ Extern.ReflectliteType.typeOf func76 (by kernel_rfl) (by kernel_rfl) (by kernel_rfl) (by kernel_rfl);have hb:=@YX prog 246 _ Fs func246 (by kernel_rfl) (by kernel_rfl) (by kernel_rfl) (by kernel_rfl);have tT:=Ew;have cT:=CT;have mR:=B6;have nE:=GI;have uE:=DY;have vE:=DN;have nW:=Gz;have uW:=DF;have mU:=CH;have eU:=CJ;have hc:=fun w=>run_eql_iface_ptr_same (P:=prog) w b underlying64 underlying315 hi ha hj;have hf:=fun w=>run_eql_iface_types (P:=prog) 69 315 (.agg #[.int .i64 c,.iface 315 (.pointer (some b))]) (.pointer (some b)) underlying64 (by decide) w;go_enter func32,ntmps32;go_wp2;refine wp_loop_rounds 2 ?_;rw[rounds_succ];go_wp2;rw[rounds_succ];go_wp2;go_ret;exact⟨rfl,by go_grown⟩
theorem jH_ (c:Int)(a b:Addr)(ca cb:Array Value)(ta tb:TypeId)(w:World)(hne:a≠b)(ha:w.heap[a.block]?=some (.cells ca ta (0,0)))(hb:w.heap[b.block]?=some (.cells cb tb (0,0))):
  Calls prog 32 #[.iface 69 (.agg #[.int .i64 c,.iface 315 (.pointer (some a))]),.iface 315 (.pointer (some b))] w fun e w'=>e=.returned (.bool false)∧Below w.heap.size w w':=by
 obtain⟨i,hi,hc⟩:=ZW.1 Ft;obtain⟨j,hj,hh⟩:=ZW.1 Fw;have h8:=@YX prog 76 _ Extern.ReflectliteType.typeOf func76 (by kernel_rfl) (by kernel_rfl) (by kernel_rfl) (by kernel_rfl);have hk:=@YX prog 246 _ Fs func246 (by kernel_rfl) (by kernel_rfl) (by kernel_rfl) (by kernel_rfl);have tT:=Ew;have cT:=CT;have mR:=B6;have nE:=GI;have uE:=DY;have vE:=DN;have nW:=Gz;have uW:=DF;have mU:=CH;have eU:=CJ;have he:=fun (u:World) (hu:Below w.heap.size w u)=>run_eql_iface_ptr_other (P:=prog) u underlying64 underlying315 hi hc hj (by rw[hh];decide) hne (by rw[hu.block _ (ZG.1 ha).1];exact ha) (by rw[hu.block _ (ZG.1 hb).1];exact hb);have hl:=fun w=>run_eql_iface_types (P:=prog) 69 315 (.agg #[.int .i64 c,.iface 315 (.pointer (some a))]) (.pointer (some b)) underlying64 (by decide) w;have hf:=he w (Yg _ _);have hg:=fun ob=>he (w.alloc ob) ((Yg _ _).alloc (Zd _) _);clear he;go_enter func32,ntmps32;go_wp2;refine wp_loop_rounds 2 ?_;rw[rounds_succ];go_wp2;rw[rounds_succ];go_wp2;go_ret;exact⟨rfl,by go_grown⟩
def hnd (t:Nat):Value:=.pointer (some ⟨11,t,none⟩)
def DC:Array Value->Sem Value:=fun args=>ReflectliteValue.unpack (args.getD 0 (.tuple #[]))
def GD:Array Value->Sem Value:=ReflectliteValue.methodAny (ReflectliteValue.valueError "reflectlite.Value.Type" 0) fun t _ _ _=>ReflectliteType.toType t
def FN:Array Value->Sem Value:=ReflectliteValue.method (ReflectliteValue.valueError "reflectlite.Value.IsNil" 0) ReflectliteValue.isNil
def FB:Array Value->Sem Value:=ReflectliteValue.method (ReflectliteValue.valueError "reflectlite.Value.Elem" 0) ReflectliteValue.elem
def Fi:Array Value->Sem Value:=ReflectliteType.method ReflectliteType.elem
def Ff:Array Value->Sem Value:=ReflectliteType.abiMethod fun t=>do pure (.int .u8 (<-Rtype.kind t))
def Gv:Array Value->Sem Value:=ReflectliteType.relation "Implements" ReflectliteType.implements_
def Ha:Array Value->Sem Value:=ReflectliteType.relation "AssignableTo" ReflectliteType.assignableTo
theorem FH (v:Value)(w:World):(Extern.ReflectliteType.typeOf #[.iface 69 v]).run prog w=.ok (.iface 220 (.agg #[.pointer (some ⟨11,69,none⟩)])) w:=by kernel_rfl
theorem ED (q:Addr)(w:World):(DC #[.iface 71 (.pointer (some q))]).run prog w=.ok (.agg #[.pointer (some ⟨11,71,none⟩),.pointer (some ⟨w.heap.size,0,none⟩),.int .u64 150]) (w.alloc (.cells #[.pointer (some q)] 71)):=by kernel_rfl
theorem GW (p:Addr)(w:World):(GD #[.agg #[.pointer (some ⟨11,71,none⟩),.pointer (some p),.int .u64 150]]).run prog w=.ok (.iface 220 (.agg #[.pointer (some ⟨11,71,none⟩)])) w:=by kernel_rfl
theorem Ec (h:Value)(w:World):(Go.method 447 220 (.agg #[h]) "Kind").run prog w=.ok (230,h) w:=by kernel_rfl
theorem Eg (v:Value)(w:World):(Go.method 447 220 v "Elem").run prog w=.ok (247,v) w:=by kernel_rfl
theorem DZ (v:Value)(w:World):(Go.method 447 220 v "Implements").run prog w=.ok (248,v) w:=by kernel_rfl
theorem Ej (v:Value)(w:World):(Go.method 447 220 v "AssignableTo").run prog w=.ok (245,v) w:=by kernel_rfl
theorem Fc (w:World):(Ff #[.pointer (some ⟨11,71,none⟩)]).run prog w=.ok (.int .u8 22) w:=by kernel_rfl
theorem E6 (w:World):(Ff #[.pointer (some ⟨11,69,none⟩)]).run prog w=.ok (.int .u8 25) w:=by kernel_rfl
theorem Ga (w:World):(Fi #[.agg #[.pointer (some ⟨11,71,none⟩)]]).run prog w=.ok (.iface 220 (.agg #[.pointer (some ⟨11,69,none⟩)])) w:=by kernel_rfl
theorem G4 (w:World):(Gv #[.agg #[.pointer (some ⟨11,69,none⟩)],.iface 220 (.agg #[.pointer (some ⟨11,64,none⟩)])]).run prog w=.ok (.bool true) w:=by kernel_rfl
theorem Hp (w:World):(Ha #[.agg #[.pointer (some ⟨11,69,none⟩)],.iface 220 (.agg #[.pointer (some ⟨11,69,none⟩)])]).run prog w=.ok (.bool true) w:=by kernel_rfl
theorem EF (c:Int)(a:Addr)(w:World):(DC #[.iface 69 (.agg #[.int .i64 c,.iface 315 (.pointer (some a))])]).run prog w=.ok (.agg #[.pointer (some ⟨11,69,none⟩),.pointer (some ⟨w.heap.size,0,none⟩),.int .u64 153]) (w.alloc (.cells #[.int .i64 c,.iface 315 (.pointer (some a))] 69)):=by kernel_rfl
theorem Er (p:Addr)(w:World):(ReflectliteValue.parts (.agg #[.pointer (some ⟨11,71,none⟩),.pointer (some p),.int .u64 150])).run prog w=.ok (some (71,p,150)) w:=by kernel_rfl
theorem FC (p:Addr)(w:World):(ReflectliteValue.parts (.agg #[.pointer (some ⟨11,69,none⟩),.pointer (some p),.int .u64 153])).run prog w=.ok (some (69,p,153)) w:=by kernel_rfl
theorem Fg (p:Addr)(w:World):(ReflectliteValue.parts (.agg #[.pointer (some ⟨11,69,none⟩),.pointer (some p),.int .u64 409])).run prog w=.ok (some (69,p,409)) w:=by kernel_rfl
theorem Fj (w:World):(Rtype.directlyAssignable 69 69).run prog w=.ok true w:=by kernel_rfl
theorem Gk (w:World):(Rtype.elem? 71).run prog w=.ok (some 69) w:=by kernel_rfl
theorem Hw (p:Addr)(w:World):(ReflectliteValue.mk 69 p ReflectliteValue.flagAddr).run prog w=.ok (.agg #[.pointer (some ⟨11,69,none⟩),.pointer (some p),.int .u64 409]) w:=by kernel_rfl
theorem Gg (p q:Addr)(w:World)(h:(loadVar 71 p).run prog w=.ok (.pointer (some q)) w):(FN #[.agg #[.pointer (some ⟨11,71,none⟩),.pointer (some p),.int .u64 150]]).run prog w=.ok (.bool false) w:=by
 show Sem.run prog (bind (ReflectliteValue.parts (.agg #[.pointer (some ⟨11,71,none⟩),.pointer (some p),.int .u64 150])) _) w=_;simp[Er,ReflectliteValue.isNil,h]
theorem Gf (p q:Addr)(w:World)(h:(loadVar 71 p).run prog w=.ok (.pointer (some q)) w):(FB #[.agg #[.pointer (some ⟨11,71,none⟩),.pointer (some p),.int .u64 150]]).run prog w=.ok (.agg #[.pointer (some ⟨11,69,none⟩),.pointer (some q),.int .u64 409]) w:=by
 show Sem.run prog (bind (ReflectliteValue.parts (.agg #[.pointer (some ⟨11,71,none⟩),.pointer (some p),.int .u64 150])) _) w=_;simp[Er,ReflectliteValue.elem,h,Gk,Hw]
theorem Hc (p q:Addr)(v:Value)(w w':World)(h:(loadVar 69 q).run prog w=.ok v w)(h':(storeVar 69 p v).run prog w=.ok () w'):(ReflectliteValue.set #[.agg #[.pointer (some ⟨11,69,none⟩),.pointer (some p),.int .u64 409],.agg #[.pointer (some ⟨11,69,none⟩),.pointer (some q),.int .u64 153]]).run prog w=.ok (.tuple #[]) w':=by
 show Sem.run prog (bind (ReflectliteValue.parts (.agg #[.pointer (some ⟨11,69,none⟩),.pointer (some p),.int .u64 409])) (fun _=>bind (ReflectliteValue.parts (.agg #[.pointer (some ⟨11,69,none⟩),.pointer (some q),.int .u64 153])) _)) w=_;simp[Fg,FC,h,Fj,h',ReflectliteValue.flagAddr]
theorem qh_ (t:Value)(w:World):
  Calls prog 33 #[.nilIface,t] w fun e w'=>e=.returned (.bool false)∧w'=w:=by
 go_enter func33,ntmps33;go_wp2;go_ret;exact⟨rfl,rfl⟩
theorem lk_ (p q:Addr)(w:World)(h:w.cell? p=some (.pointer (some q))):(loadVar 71 p).run prog w=.ok (.pointer (some q)) w:=by
 simp[loadVar,isAgg,underlying,underlying71,h,Result.andThen]
theorem Gh:(prog.info? 69).map (·.size)=some 2:=by kernel_rfl
theorem o3_ (b:Nat)(x y:Value)(w:World)(h:Blk w b #[x,y] 69):(loadVar 69 ⟨b,0,none⟩).run prog w=.ok (.agg #[x,y]) w:=
 run_loadVar_row w b 69 69 #[x,y] _ _ h underlying69 rfl Gh
theorem nU_ (b:Nat)(c0 c1:Value)(c:Int)(a:Addr)(w:World)(h:Blk w b #[c0,c1] 69):(storeVar 69 ⟨b,0,none⟩ (.agg #[.int .i64 c,.iface 315 (.pointer (some a))])).run prog w=.ok () ((w.setCell ⟨b,0,none⟩ (.int .i64 c)).setCell ⟨b,1,none⟩ (.iface 315 (.pointer (some a)))):=by
 have x0:w.cell? ⟨b,0,none⟩=some c0:=h.cell 0;have f0:=h.frozen 0;have h1:=h.set 0 (.int .i64 c);have x1:(w.setCell ⟨b,0,none⟩ (.int .i64 c)).cell? ⟨b,1,none⟩=some c1:=by rw[h1.cell];rfl
 have f1:=h1.frozen 1;simp[storeVar,Value.cells,storeCells,Addr.add];rw[run_store prog w ⟨b,0,none⟩ _ _ (by rfl)];simp[x0,f0,Result.andThen];rw[run_store prog _ ⟨b,1,none⟩ _ _ (by rfl)];simp[x1,f1]
theorem qi_ (c:Int)(a:Addr)(b:Nat)(c0 c1:Value)(w:World)(hg:w.cell? ⟨3,0,none⟩=some (.iface 220 (.agg #[.pointer (some ⟨11,64,none⟩)])))(hb:Blk w b #[c0,c1] 69):
  Calls prog 33 #[.iface 69 (.agg #[.int .i64 c,.iface 315 (.pointer (some a))]),.iface 71 (.pointer (some ⟨b,0,none⟩))] w fun e w'=>e=.returned (.bool true)∧Blk w' b #[.int .i64 c,.iface 315 (.pointer (some a))] 69∧w.grownBy w' (some b):=by
 have hV:=@YX prog 78 _ DC func78 (by kernel_rfl) (by kernel_rfl) (by kernel_rfl) (by kernel_rfl);have hT:=@YX prog 79 _ GD func79 (by kernel_rfl) (by kernel_rfl) (by kernel_rfl) (by kernel_rfl);have hN:=@YX prog 80 _ FN func80 (by kernel_rfl) (by kernel_rfl) (by kernel_rfl) (by kernel_rfl);have hK:=@YX prog 230 _ Ff func230 (by kernel_rfl) (by kernel_rfl) (by kernel_rfl) (by kernel_rfl);have hE:=@YX prog 247 _ Fi func247 (by kernel_rfl) (by kernel_rfl) (by kernel_rfl) (by kernel_rfl);have hI:=@YX prog 248 _ Gv func248 (by kernel_rfl) (by kernel_rfl) (by kernel_rfl) (by kernel_rfl);have hO:=@YX prog 76 _ Extern.ReflectliteType.typeOf func76 (by kernel_rfl) (by kernel_rfl) (by kernel_rfl) (by kernel_rfl);have hS:=@YX prog 245 _ Ha func245 (by kernel_rfl) (by kernel_rfl) (by kernel_rfl) (by kernel_rfl);have hL:=@YX prog 133 _ FB func133 (by kernel_rfl) (by kernel_rfl) (by kernel_rfl) (by kernel_rfl);have hQ:=@YX prog 134 _ ReflectliteValue.set func134 (by kernel_rfl) (by kernel_rfl) (by kernel_rfl) (by kernel_rfl);have t1:=FH;have t2:=ED;have t3:=GW;have t4:=Ec;have t5:=Eg;have t6:=DZ;have t7:=Ej;have t8:=Fc;have t9:=E6;have ta:=Ga;have tb:=G4;have tc:=Hp;have td:=EF;obtain⟨W1,hf⟩:∃ W,W=w.alloc (.cells #[.pointer (some ⟨b,0,none⟩)] 71):=⟨_,rfl⟩;obtain⟨W2,ha⟩:∃ W,W=(w.alloc (.cells #[.pointer (some ⟨b,0,none⟩)] 71)).alloc (.cells #[.pointer (some ⟨11,71,none⟩),.pointer (some ⟨w.heap.size,0,none⟩),.int .u64 150] 134):=⟨_,rfl⟩;obtain⟨W3,he⟩:∃ W,W=((w.alloc (.cells #[.pointer (some ⟨b,0,none⟩)] 71)).alloc (.cells #[.pointer (some ⟨11,71,none⟩),.pointer (some ⟨w.heap.size,0,none⟩),.int .u64 150] 134)).alloc (.cells #[.pointer (some ⟨11,71,none⟩),.pointer (some ⟨w.heap.size,0,none⟩),.int .u64 150] 134):=⟨_,rfl⟩;obtain⟨W4,hc⟩:∃ W,W=(((w.alloc (.cells #[.pointer (some ⟨b,0,none⟩)] 71)).alloc (.cells #[.pointer (some ⟨11,71,none⟩),.pointer (some ⟨w.heap.size,0,none⟩),.int .u64 150] 134)).alloc (.cells #[.pointer (some ⟨11,71,none⟩),.pointer (some ⟨w.heap.size,0,none⟩),.int .u64 150] 134)).alloc (.cells #[.int .i64 c,.iface 315 (.pointer (some a))] 69):=⟨_,rfl⟩;have B2:Below w.heap.size w W2:=by rw[ha];go_grown
 have B4:Below w.heap.size w W4:=by rw[hc];go_grown
 have p2:Blk W2 w.heap.size #[.pointer (some ⟨b,0,none⟩)] 71:=by rw[ha];exact (Blk.new w _ _).alloc _
 have p3:Blk W3 w.heap.size #[.pointer (some ⟨b,0,none⟩)] 71:=by rw[he];exact ((Blk.new w _ _).alloc _).alloc _
 have r4:Blk W4 (w.heap.size+1+1+1) #[.int .i64 c,.iface 315 (.pointer (some a))] 69:=by rw[hc];exact Blk.new' _ _ _ _ (by simp)
 have b4:=hb.below B4;have hj:=hb.lt;have n1:=Gg ⟨w.heap.size,0,none⟩ ⟨b,0,none⟩ W2 (lk_ _ _ _ (p2.cell 0));have n2:=Gf ⟨w.heap.size,0,none⟩ ⟨b,0,none⟩ W3 (lk_ _ _ _ (p3.cell 0));have n3:=Hc ⟨b,0,none⟩ ⟨w.heap.size+1+1+1,0,none⟩ _ W4 _ (o3_ _ _ _ _ r4) (nU_ b c0 c1 c a W4 b4);have hh:=Ab B2 hg
 have E8:Blk ((W4.setCell ⟨b,0,none⟩ (.int .i64 c)).setCell ⟨b,1,none⟩ (.iface 315 (.pointer (some a)))) b #[.int .i64 c,.iface 315 (.pointer (some a))] 69:=by
  have:=(b4.set 0 (.int .i64 c)).set 1 (.iface 315 (.pointer (some a)))
  simpa using this
 have G8:w.grownBy ((W4.setCell ⟨b,0,none⟩ (.int .i64 c)).setCell ⟨b,1,none⟩ (.iface 315 (.pointer (some a)))) (some b):=af_ (af_ (au_ (Yh _ _) B4) _ _) _ _;rw[ha] at n1 hh;rw[he] at n2;rw[hc] at n3 E8 G8;clear hf ha he hc B2 B4 p2 p3 r4 b4;go_enter func33,ntmps33;go_wp2;refine wp_loop_rounds 1 ?_;rw[rounds_succ];go_wp2;go_ret;exact⟨rfl,E8,G8⟩
end
section
open Go Go.RowKit Go.BigFrame Tryz
variable{B i:Nat}{a:Option Addr}{p:Po}{v:Value}{w w':World}
structure DT (S:Addr->Prop)(ep:Addr)(w:World):Prop where
 s:BO S w
 pool:BC w 0 ep
 ne:∀ a,S a->a≠ep
 blk:∃ c t,w.heap[ep.block]?=some (.cells c t (0,0))
 blks:∀ a,S a->∃ c t,w.heap[a.block]?=some (.cells c t (0,0))
 ty:w.cell? ⟨3,0,none⟩=some (.iface 220 (.agg #[.pointer (some ⟨11,64,none⟩)]))
theorem DT.below {S:Addr->Prop}{ep:Addr}(h:DT S ep w)(hb:Below w.heap.size w w'):DT S ep w':=by
 refine⟨h.s.below hb,h.pool.below hb,h.ne,?_,fun a ha=>?_,Ab hb h.ty⟩
 ·obtain⟨c,t,hc⟩:=h.blk;exact⟨c,t,(hb.block _ (ZG.1 hc).1).trans hc⟩
 ·obtain⟨c,t,hc⟩:=h.blks a ha;exact⟨c,t,(hb.block _ (ZG.1 hc).1).trans hc⟩
def Bw (B:Nat)(w:World)(v:Value)(p:Po):Prop:=∃ rows,BK B w v p rows
theorem Bw.below (h:Bw B w v p)(hb:Below w.heap.size w w'):Bw B w' v p:=by
 obtain⟨rows,h⟩:=h;exact⟨rows,h.below hb⟩
theorem Bw.mono {B':Nat}(h:Bw B w v p)(hb:B'<=B):Bw B' w v p:=by
 obtain⟨rows,h⟩:=h;exact⟨rows,h.mono hb⟩
theorem Bw.t (h:Bw B w v p):Ai B w v p:=by
 obtain⟨rows,h⟩:=h;exact h.t
theorem mr_ (B:Nat)(w:World):BK B w (.agg #[.int .i64 0,.int .i64 0,.slice none 0 0,.slice none 0 0,.slice none 0 0,.slice none 0 0]) ⟨0,0,[],[],[],[]⟩ []:=⟨_,_,_,_,_,_,_,_,_,_,_,_,rfl,aB_,⟨aB_,Av.nil _ _⟩,aB_,aB_,(fun x y h=>by cases h),(fun i j r s x y _ h=>by simp at h),List.nodup_nil⟩
def HC (S:Addr->Prop)(ep:Addr)(B:Nat)(p:Po)(o:Opr)(e:Ending)(w':World):Prop:=
 (Aj p=false∧e=.returned (.tuple #[Dq,BJ 1 ep]))∨(Aj p=true∧∃ c a,S a∧e=.returned (.tuple #[Dq,BJ c a])∧opS p o=(c,p))∨(Aj p=true∧∃ v q rows,e=.returned (.tuple #[v,.nilIface])∧BK B w' v q rows∧Ax q∧opS p o=(0,q))
theorem ms_ (S:Addr->Prop)(ep:Addr)(B0:Nat)(hB0:0<B0)(v:Value)(p:Po)(o:Opr)(w:World)(h:AA B0 w v p)(hd:Ax p)(hso:Bu o)(hE:DT S ep w)(hgl:11<=w.heap.size):
  Calls prog 31 #[v,.agg #[.int .i64 o.k,.string o.vol,.string o.file,.string o.to,.string o.into,.int .i64 o.at',.int .i64 o.fr,.int .i64 o.ln,.string o.data]] w fun e w'=>HC S ep w.heap.size p o e w'∧Below w.heap.size w w':=by
 cases hp:Aj p
 ·refine (li_ ep B0 v p o w h hd hp hE.pool).mono ?_;rintro e w' ⟨rfl,hB⟩;exact⟨.inl ⟨hp,rfl⟩,hB⟩
 ·cases ho:opB o
  ·obtain⟨a,ha,hg⟩:=hE.s.op;refine (mq_ a B0 v p o w h hd hp ho hso ha).mono ?_;rintro e w' ⟨rfl,hB⟩;exact⟨.inr (.inl ⟨hp,2,a,hg,rfl,by unfold opS;rw[ho];rfl⟩),hB⟩
  ·refine (nT_ S B0 hB0 v p o w h hd hp ho hso hE.s hgl).mono ?_;rintro e w' ⟨hb,hB⟩;refine⟨?_,hB⟩;have hc:=o1_ hp ho;unfold FI at hb
   cases hr:CZ p o.k o.vol o.file o.to o.into o.at' o.fr o.ln o.data with
   |inl c=>
    rw[hr] at hc hb;obtain⟨a,ha,he⟩:=hb;exact .inr (.inl ⟨hp,c,a,ha,he,hc.symm⟩)
   |inr q=>
    rw[hr] at hc hb
    cases hk:Aj (A5 p q)
    ·simp only[Gn,hk,Zj,if_false] at hb;obtain⟨a,ha,he⟩:=hb;simp only[BY,hk,Zj,if_false] at hc;exact .inr (.inl ⟨hp,5,a,ha,he,hc.symm⟩)
    ·simp only[Gn,hk,if_true] at hb;obtain⟨v',rows,he,hT,hf⟩:=hb;simp only[BY,hk,if_true] at hc;exact .inr (.inr ⟨hp,v',_,rows,he,hT,hf,hc.symm⟩)
end
end Go.Proofs.YtbbhcnjhohidnaaGreatDoor
