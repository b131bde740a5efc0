/- Ops that are done when they are tried, by the model. -/
import Derived.Stop.Asserts
import Derived.Test.YtbbhcnjhohidnaaGreatDoorV32
set_option maxHeartbeats 20000000
set_option maxRecDepth 100000
namespace Go.Proofs.YtbbhcnjhohidnaaGreatDoor
section
open Go Go.RowKit Go.BigFrame Tryz
variable{file:ByteArray}{its:List It}{rows:List VR}{l:List Vo}{B i:Nat}{p q:Po}{v:Value}{y:Vo}{w w':World}
theorem pU_ {o:Opr}(hp:poolB p=true)(hd:DimP p)(ho:opB o=true)(h:carR p o.k o.vol o.file o.to o.into o.at' o.fr o.ln o.data=.inr q):CarQ q:=by
 have hb:=ib_ hp hd;have hf:=h5_ ho;by_cases hk:o.k=9
 ·rw[i3_ hk] at h;injection h with h;subst h;have hr:=c6_ hp;rw[lf_ hp];refine⟨hb.vn,hb.g,hb.nd,?_,fun x hx=>hb.es x (List.mem_filter.1 hx).1,(a0_ hr).1,g7_ hb.rs hb.ls,Zg _,fun c hc=>by cases hc⟩
  have:=Yc (fun e:Ex=>(sumC p.rf p.lt).any (fun c=>c.o.a==e.a)) p.ex
  have h2:=hb.el;show (p.ex.filter _).length<=_;omega
 unfold opB at ho;unfold carR at h;rcases hf with e | e | e | e | e | e | e | e | e | e
 ·simp[e] at ho h;exact lh_ hp hd ho.1 ⟨by simp,fun x hx=>by cases hx⟩ h
 ·simp[e] at ho h;obtain⟨i,y,h1,h2,h3⟩:=bY_ h;have hy:=cQ_ hp y (Zc h2);unfold writeR at h3
  cases he:placedO p.size p.ex o.data with
  |none=>rw[he] at h3;cases h3
  |some r=>
   obtain⟨L,a⟩:=r;rw[he] at h3;simp only at h3
   cases hl:laidR y o.file ((fileO y o.file).getD []) o.at' [⟨a,0,o.data.size⟩] with
   |inl c=>rw[hl] at h3;cases h3
   |inr its=>
    rw[hl] at h3;injection h3 with h3;subst h3;obtain⟨ps,ha,rfl⟩:=eW_ hl
    have hE:L.length<=60∧Strs L:=by
     have hh:=l6_ ho.1.2;have hm:=hb.el;unfold placedO at he;split at he
     ·rename_i hc;obtain⟨x,_,hx⟩:=ZW.1 he;injection hx with hx _;subst hx;have hg:=hc.2.2;refine⟨by unfold withE;simp;omega,fun z hz=>?_⟩;unfold withE at hz;rcases Zs.1 hz with hz | hz
      ·rcases Zs.1 hz with hz | hz
       ·exact hb.es z (ZX hz)
       ·simp only[List.mem_singleton] at hz;subst hz;simp only;omega
      ·exact hb.es z (List.mem_of_mem_drop hz)
     ·cases he
    exact hb.set (z:={y with its:=setI ⟨o.file,ps⟩ y.its}) h2 rfl (hc_ hy.1 hy.2 ho.1.1.1.2 ha) hE.1 hE.2
 ·simp[e] at ho h;obtain⟨i,y,h1,h2,h3⟩:=bY_ h;have hy:=cQ_ hp y (Zc h2);refine eX_ hp hd h2 (fun its hi=>?_) h3;unfold cutR at hi;split at hi
  ·cases hi
  ·obtain⟨ps,ha,rfl⟩:=eW_ hi;exact hc_ hy.1 hy.2 ho.1.1.2 ha
 ·simp[e] at ho h;obtain⟨i,y,h1,h2,h3⟩:=bY_ h;have hy:=cQ_ hp y (Zc h2);refine eX_ hp hd h2 (fun its hi=>?_) h3;unfold unlinkR at hi;split at hi
  ·cases hi
  ·injection hi with hi;subst hi;obtain⟨⟨a1,a2,a3,a4,a5⟩,_⟩:=hy;refine⟨a1,a2,a3,?_,fun x hx=>a5 x (List.mem_filter.1 hx).1⟩
   have:=Yc (fun t:It=>!(t.nm.toList==o.file.toList)) y.its
   simp only;omega
 ·simp[e] at ho h;obtain⟨i,y,h1,h2,h3⟩:=bY_ h;have hy:=cQ_ hp y (Zc h2);refine eX_ hp hd h2 (fun its hi=>?_) h3;unfold copyR at hi;split at hi
  ·cases hi
  ·split at hi
   ·cases hi
   ·split at hi
    ·cases hi
    ·obtain⟨ps,ha,rfl⟩:=eW_ hi;exact hc_ hy.1 hy.2 ho.1.1.1.1.2 ha
 ·simp[e] at ho h;obtain⟨i,y,h1,h2,h3⟩:=bY_ h;obtain⟨⟨a1,a2,a3,a4,a5⟩,_⟩:=cQ_ hp y (Zc h2);exact lh_ hp hd ho.1.2 ⟨a4,a5⟩ h3
 ·simp[e] at ho h;obtain⟨i,y,h1,h2,h3⟩:=bY_ h;injection h3 with h3;subst h3;have hj:=Yc (fun v:Vo=>!(v.nm.toList==o.vol.toList)) p.vs;have h7:=hb.vn;refine⟨?_,fun v hv=>hb.g v (List.mem_filter.1 hv).1,hb.nd.sublist (List.filter_sublist.map _),hb.el,hb.es,hb.rl,hb.rs,hb.ll,hb.ls⟩;show (p.vs.filter _).length<=_;omega
 ·simp[e] at ho h;obtain⟨i,y,h1,h2,h3⟩:=bY_ h;have hy:=cQ_ hp y (Zc h2);split at h3
  ·cases h3
  ·injection h3 with h3;subst h3;exact hb.set (z:={y with fx:=true}) h2 rfl hy.1 hb.el hb.es
 ·exact absurd e hk
 ·simp[e] at ho h;obtain⟨i,y,h1,h2,h3⟩:=bY_ h;have hy:=cQ_ hp y (Zc h2);refine eX_ hp hd h2 (fun its hi=>?_) h3;unfold punchR at hi;split at hi
  ·cases hi
  ·obtain⟨ps,ha,rfl⟩:=eW_ hi;exact hc_ hy.1 hy.2 ho.1.1.1.2 ha
def zeroP:Value:=.agg #[.int .i64 0,.int .i64 0,.slice none 0 0,.slice none 0 0,.slice none 0 0,.slice none 0 0]
def RetA (S:Addr->Prop)(B:Nat)(e:Ending)(w':World):Int⊕Po->Prop
 |.inl c=>∃ a,S a∧e=.returned (.tuple #[zeroP,refV c a])
 |.inr q=>∃ v rows,e=.returned (.tuple #[v,.nilIface])∧PoolU B w' v q rows∧DimP q
theorem PoolU.below (h:PoolU B w v p rows)(hb:Below w.heap.size w w'):PoolU B w' v p rows:=by
 obtain⟨ea,en,ec,va,vn,vc,ra,rn,rc,la,ln,lc,hv,h1,⟨h2,h3⟩,h4,h5,h6,h7,h8⟩:=h;exact⟨ea,en,ec,va,vn,vc,ra,rn,rc,la,ln,lc,hv,h1.below hb,⟨h2.below hb,h3.below hb⟩,h4.below hb,h5.below hb,h6,h7,dc_ h3 h8 hb⟩
theorem PoolU.mono {B':Nat}(h:PoolU B w v p rows)(hb:B'<=B):PoolU B' w v p rows:=by
 obtain⟨ea,en,ec,va,vn,vc,ra,rn,rc,la,ln,lc,hv,h1,⟨h2,h3⟩,h4,h5,h6,h7,h8⟩:=h;exact⟨ea,en,ec,va,vn,vc,ra,rn,rc,la,ln,lc,hv,h1.mono hb,⟨h2.mono hb,h3.mono hb⟩,h4.mono hb,h5.mono hb,h6,h7,h8⟩
theorem PoolU.tyP {row:Option Nat}(h:PoolU B w v p rows)(hg:w.grownBy w' row)(hr:RowTy w row 35):PoolU B w' v p rows:=by
 obtain⟨ea,en,ec,va,vn,vc,ra,rn,rc,la,ln,lc,hv,h1,⟨h2,h3⟩,h4,h5,h6,h7,h8⟩:=h;exact⟨ea,en,ec,va,vn,vc,ra,rn,rc,la,ln,lc,hv,h1.ty hg hr (by decide),⟨h2.ty hg hr (by decide),h3.ty hg hr (by decide) (by decide)⟩,h4.ty hg hr (by decide),h5.ty hg hr (by decide),h6,h7,kp_ h3 h8 hg hr (by decide)⟩
def carB (p:Po):Int⊕Po->Int⊕Po
 |.inl c=>.inl c
 |.inr q=>if poolB (lateS p q)=true then .inr (lateS p q) else .inl 5
def carA (p:Po)(o:Opr):Int⊕Po:=carB p (carR p o.k o.vol o.file o.to o.into o.at' o.fr o.ln o.data)
theorem li_ (ep:Addr)(B0:Nat)(v:Value)(p:Po)(o:Opr)(w:World)(h:PoolAt B0 w v p)(hd:DimP p)(hp:poolB p=false)(hep:SenAt w 0 ep):
  Calls prog 31 #[v,.agg #[.int .i64 o.k,.string o.vol,.string o.file,.string o.to,.string o.into,.int .i64 o.at',.int .i64 o.fr,.int .i64 o.ln,.string o.data]] w fun e w'=>e=.returned (.tuple #[zeroP,refV 1 ep])∧Below w.heap.size w w':=by
 have hh:=h;obtain⟨ea,en,ec,va,vn,vc,ra,rn,rc,la,ln,lc,rfl,_⟩:=h;go_enter func31,ntmps31
 go_wp2_with fail
 refine (ch_ B0 _ p _ (hh.below (by go_grown)) hd).mono ?_;rintro e w1 ⟨rfl,hf⟩;obtain⟨C,O,D,ha,hk⟩:=bx3 hf;clear hf;have hq:=hep.below ha;rw[hp];have hb:w1.drew.cell? ⟨0,0,none⟩=some (.iface 315 (.pointer (some ep))):=hq;have DD:Blk w1.drew (w.heap.size+2) #[.int .i64 0,.int .i64 0,.slice none 0 0,.slice none 0 0,.slice none 0 0,.slice none 0 0] 35:=D;have BB:Below w.heap.size w w1.drew:=ha.drew
 go_wp2_with fail
 have hj:(fun u:World=>u.cell? ⟨0,0,none⟩=some (.iface 315 (.pointer (some ep)))) w1.drew:=hb;refine aC_ (S:=(fun u:World=>u.cell? ⟨0,0,none⟩=some (.iface 315 (.pointer (some ep))))) 6 (by kernel_rfl) rfl ?_;generalize w1.drew=wd at DD BB hb hj ⊢;obtain⟨x0,x1,x2,x3,x4,x5⟩:=DD.six';obtain⟨f0,f1,f2,f3,f4,f5⟩:=fz6 DD;refine tk 0 ?_;refine tk 1 ?_;refine tk 2 ?_;refine tk 3 ?_;refine oneL (i:=4) (by kernel_rfl) rfl (fun K hK=>?_);go_simp;obtain⟨W8,he,W0,hg⟩:=set6 DD (.int .i64 0) (.int .i64 0) (.slice none 0 0) (.slice none 0 0) (.slice none 0 0) (.slice none 0 0);rw[<-he];clear he;have hc:=hg.cell hb (by simp only[ne_eq,Zo];omega);refine hK.out _ _ hc (fun hHeld=>?_);clear hK K
 try simp only[Act.put,lsA,lsB,lsC]
 refine tk 5 ?_;refine wpAnyH_done (by kernel_rfl) ?_ _;go_wp2;refine bodyPost_ret (ad_ rfl _ W8 (w.heap.size+2) _ _ _ _ _ rfl W0 underlying35 rfl (by kernel_rfl) rfl) rfl ?_;exact⟨rfl,BB.grown hg BB.size (fun j e=>by cases e;omega)⟩
theorem TlAt.below {b n:Nat}{f:Ow->Int}(h:TlAt w b n f)(hb:Below w.heap.size w w'):TlAt w' b n f:=h.kept (row:=none) ⟨hb.os,hb.tape,hb.output,hb.size,fun k hk _=>hb.block k hk⟩ (by simp)
theorem fG_:∀ {l:List Ct} {c:Ct},Rising l->c∈l->tot c.o l=c.n
 |[],_,_,h=>by cases h
 |y::r,c,hr,h=>by
  have h1:=(Ye.1 hr).1;simp only[tot];rcases Zn.1 h with rfl | h
  ·rw[a3_,if_pos rfl,cc_ h1];omega
  ·rw[dA_ (h1 c h),fG_ hr.of_cons h];simp
theorem m1_ (h:WideV l):∀ c∈walkL l,0<=c.n∧c.n<=42000:=fun c hc=>by
 obtain⟨h1,_,h3⟩:=bR_ l;have e:=fG_ h1 hc;rw[h3] at e;have h4:=cy_ (fZ_ l) c.o;have h5:=fF_ (l:=l) (fun v hv=>⟨(h.2 v hv).1,fun x hx=>((h.2 v hv).2 x hx).1⟩);have h6:=h.1;omega
theorem qe_ {l:List Ct}{M:Int}(h:∀ c∈l,0<=c.n∧c.n<=M)(hr:Rising l)(o:Ow):0<=tot o l∧(tot o l<=M∨tot o l=0):=by
 by_cases hc:∃ c∈l,c.o=o
 ·obtain⟨c,hm,rfl⟩:=hc;rw[fG_ hr hm];exact⟨(h c hm).1,.inl (h c hm).2⟩
 ·rw[bB_ (fun c hm e=>hc ⟨c,hm,e⟩)];exact⟨Int.le_refl _,.inr rfl⟩
theorem hd_ (h:WfV l):WfC (walkL l):=fun c hc=>by
 rcases eI_ hc with⟨d,hd,_⟩ | ⟨d,hd,e⟩
 ·cases hd
 ·rw[e];exact hN_ h d hd
theorem qf_ {l:List Ct}(h:WfC l):WfC (negC l):=fun c hc=>by
 obtain⟨d,hd,rfl⟩:=ZT.1 hc;exact h d hd
theorem m2_ (h:DimP p):DimU p:=by
 obtain⟨z1,z2,z3,z4,z5,z6,z7,z8⟩:=h;exact⟨z1,z3,z5,z7,fun v hv=>⟨(z4 v hv).2.1,fun y hy=>((z4 v hv).2.2 y hy).2⟩⟩
theorem mq_ (ep:Addr)(B0:Nat)(v:Value)(p:Po)(o:Opr)(w:World)(h:PoolAt B0 w v p)(hd:DimP p)(hp:poolB p=true)(ho:opB o=false)(hso:StrO o)(hep:SenAt w 1 ep):
  Calls prog 31 #[v,.agg #[.int .i64 o.k,.string o.vol,.string o.file,.string o.to,.string o.into,.int .i64 o.at',.int .i64 o.fr,.int .i64 o.ln,.string o.data]] w fun e w'=>e=.returned (.tuple #[zeroP,refV 2 ep])∧Below w.heap.size w w':=by
 have hk:=h;obtain⟨ea,en,ec,va,vn,vc,ra,rn,rc,la,ln,lc,rfl,_⟩:=h;go_enter func31,ntmps31
 go_wp2_with fail
 refine (ch_ B0 _ p _ (hk.below (by go_grown)) hd).mono ?_;rintro e w1 ⟨rfl,hh⟩;obtain⟨C,O,D,ha,hm⟩:=bx3 hh;clear hh;rw[hp];have o0:=O.cell 0;have o1:=O.cell 1;have o2:=O.cell 2;have o3:=O.cell 3;have o4:=O.cell 4;have o5:=O.cell 5;have o6:=O.cell 6;have o7:=O.cell 7;have o8:=O.cell 8;simp only[lgA,lgB,lgC] at o0 o1 o2 o3 o4 o5 o6 o7 o8
 go_wp2_with fail
 refine (iO_ o _ hso).mono ?_;rintro e w2 ⟨rfl,hf⟩;replace D:=D.below hf;have hq:=hep.below (chain ha hf);have he:=chain ha hf;rw[ho];have hb:w2.drew.cell? ⟨1,0,none⟩=some (.iface 315 (.pointer (some ep))):=hq;have DD:Blk w2.drew (w.heap.size+2) #[.int .i64 0,.int .i64 0,.slice none 0 0,.slice none 0 0,.slice none 0 0,.slice none 0 0] 35:=D;have BB:Below w.heap.size w w2.drew:=he.drew
 go_wp2_with fail
 have hl:(fun u:World=>u.cell? ⟨1,0,none⟩=some (.iface 315 (.pointer (some ep)))) w2.drew:=hb;refine aC_ (S:=(fun u:World=>u.cell? ⟨1,0,none⟩=some (.iface 315 (.pointer (some ep))))) 6 (by kernel_rfl) rfl ?_;generalize w2.drew=wd at DD BB hb hl ⊢;obtain⟨x0,x1,x2,x3,x4,x5⟩:=DD.six';obtain⟨f0,f1,f2,f3,f4,f5⟩:=fz6 DD;refine tk 0 ?_;refine tk 1 ?_;refine tk 2 ?_;refine tk 3 ?_;refine oneL (i:=4) (by kernel_rfl) rfl (fun K hK=>?_);go_simp;obtain⟨W8,hg,W0,hj⟩:=set6 DD (.int .i64 0) (.int .i64 0) (.slice none 0 0) (.slice none 0 0) (.slice none 0 0) (.slice none 0 0);rw[<-hg];clear hg;have hc:=hj.cell hb (by simp only[ne_eq,Zo];omega);refine hK.out _ _ hc (fun hHeld=>?_);clear hK K
 try simp only[Act.put,lsA,lsB,lsC]
 refine tk 5 ?_;refine wpAnyH_done (by kernel_rfl) ?_ _;go_wp2;refine bodyPost_ret (ad_ rfl _ W8 (w.heap.size+2) _ _ _ _ _ rfl W0 underlying35 rfl (by kernel_rfl) rfl) rfl ?_;exact⟨rfl,BB.grown hj BB.size (fun j e=>by cases e;omega)⟩
end
section
open Go Go.RowKit Go.BigFrame Tryz
theorem nT_ (S:Addr->Prop)(B0:Nat)(hB0:0<B0)(v:Value)(p:Po)(o:Opr)(w:World)(h:PoolAt B0 w v p)(hd:DimP p)(hp:poolB p=true)(ho:opB o=true)(hso:StrO o)(hS:Sens S w)(hgl:11<=w.heap.size):
  Calls prog 31 #[v,.agg #[.int .i64 o.k,.string o.vol,.string o.file,.string o.to,.string o.into,.int .i64 o.at',.int .i64 o.fr,.int .i64 o.ln,.string o.data]] w fun e w'=>RetA S w.heap.size e w' (carA p o)∧Below w.heap.size w w':=by
 obtain⟨R,hR⟩:∃ R,Hid (carR p o.k o.vol o.file o.to o.into o.at' o.fr o.ln o.data=R):=⟨_,rfl⟩;obtain⟨hY,h8⟩:=pP_ ho;have hA:Hid (carA p o=carB p R):=by show _=_;unfold carA;rw[hR.out]
 generalize carA p o=RA at *;have hI:=h;obtain⟨ea,en,ec,va,vn,vc,ra,rn,rc,la,ln,lc,rfl,_⟩:=h;go_enter func31,ntmps31
 go_wp2_with fail
 refine (ch_ B0 _ p _ (hI.below (by go_grown)) hd).mono ?_;rintro e w1 ⟨rfl,h4⟩;obtain⟨C,O,D,hC,h0⟩:=bx3 h4;clear h4;rw[hp];have o0:=O.cell 0;have o1:=O.cell 1;have o2:=O.cell 2;have o3:=O.cell 3;have o4:=O.cell 4;have o5:=O.cell 5;have o6:=O.cell 6;have o7:=O.cell 7;have o8:=O.cell 8;simp only[lgA,lgB,lgC] at o0 o1 o2 o3 o4 o5 o6 o7 o8
 go_wp2_with fail
 refine (iO_ o _ hso).mono ?_;rintro e w2 ⟨rfl,hr⟩;replace C:=C.below hr;replace O:=O.below hr;replace D:=D.below hr;have hD:=chain hC hr;have qu:w.heap.size+3<=w2.heap.size:=Zl h0 hr.size;rw[ho];clear o0 o1 o2 o3 o4 o5 o6 o7 o8 hr hC h0;obtain⟨c0,c1,c2,c3,c4,c5⟩:=C.six'
 go_wp2_with fail
 refine (ff_ B0 hB0 _ p w2 (hI.below hD) (m2_ hd)).mono ?_;rintro e w3 ⟨⟨v',rows,rfl,PU⟩,ht⟩;obtain⟨ea',en',ec',va',vn',vc',ra',rn',rc',la',ln',lc',rfl,hg⟩:=PU.own;clear PU;replace C:=C.below ht;replace O:=O.below ht;replace D:=D.below ht;have hB:=chain hD ht;have qf:w2.heap.size<=w3.heap.size:=ht.size;clear c0 c1 c2 c3 c4 c5 ht;have o0:=O.cell 0;have o1:=O.cell 1;have o2:=O.cell 2;have o3:=O.cell 3;have o4:=O.cell 4;have o5:=O.cell 5;have o6:=O.cell 6;have o7:=O.cell 7;have o8:=O.cell 8;simp only[lgA,lgB,lgC] at o0 o1 o2 o3 o4 o5 o6 o7 o8;replace o0:=fun ob=>acell (w:=w3) ob o0;replace o1:=fun ob=>acell (w:=w3) ob o1;replace o2:=fun ob=>acell (w:=w3) ob o2;replace o3:=fun ob=>acell (w:=w3) ob o3;replace o4:=fun ob=>acell (w:=w3) ob o4;replace o5:=fun ob=>acell (w:=w3) ob o5;replace o6:=fun ob=>acell (w:=w3) ob o6;replace o7:=fun ob=>acell (w:=w3) ob o7;replace o8:=fun ob=>acell (w:=w3) ob o8
 go_wp2_with fail
 have hF:Below w3.heap.size w3 (w3.alloc (.cells #[.int .i64 p.size,.int .i64 p.next,.slice ea' en' ec',.slice va' vn' vc',.slice ra' rn' rc',.slice la' ln' lc'] 35)):=(Below.refl _ _).alloc (Zd _) _;replace C:=C.below hF;replace D:=D.below hF;have hy:=chain hB hF;have qx:=hF.size;clear o0 o1 o2 o3 o4 o5 o6 o7 o8 hB O hF;generalize w3.alloc (.cells #[.int .i64 p.size,.int .i64 p.next,.slice ea' en' ec',.slice va' vn' vc',.slice ra' rn' rc',.slice la' ln' lc'] 35)=w4 at *;refine (jA_ o.k o.vol o.file o.to o.into o.at' o.fr o.ln o.data w4 h8).mono ?_;rintro e w5 ⟨rfl,hv⟩;replace C:=C.below hv;replace D:=D.below hv;replace hg:=hg.below hv;have hm:=chain hy hv;have qq:=hv.size;clear hy hv
 go_wp2_with fail
 refine (iv_ S w2.heap.size w3.heap.size (by omega) p ea' en' ec' va' vn' vc' ra' rn' rc' la' ln' lc' rows o.k o.vol o.file o.to o.into o.at' o.fr o.ln o.data qf (by omega) (pO_ hp hd) hY w5 (by omega) hg (hS.below hm)).mono ?_;rintro e w6 hl;rw[hR.out] at hl
 cases R with
 |inl c=>
  obtain⟨⟨a,qm,rfl⟩,hj⟩:=hl;have D6:Blk w6 (w.heap.size+2) #[.int .i64 0,.int .i64 0,.slice none 0 0,.slice none 0 0,.slice none 0 0,.slice none 0 0] 35:=(hj.block _ (by omega)).trans D;have hb:=chainC hm hj (by omega);obtain⟨x0,x1,x2,x3,x4,x5⟩:=D6.six';obtain⟨f0,f1,f2,f3,f4,f5⟩:=fz6 D6;unfold refV;go_wp2;obtain⟨W8,hh,W0,hn⟩:=set6 D6 (.int .i64 0) (.int .i64 0) (.slice none 0 0) (.slice none 0 0) (.slice none 0 0) (.slice none 0 0);rw[<-hh];clear hh;refine bodyPost_ret (ad_ rfl _ W8 (w.heap.size+2) _ _ _ _ _ rfl W0 underlying35 rfl (by kernel_rfl) rfl) rfl ?_;rw[hA.out];exact⟨⟨a,qm,rfl⟩,hb.grown hn hb.size (fun j e=>by cases e;omega)⟩
 |inr q=>
  obtain⟨rfl,⟨e2a,e2n,e2c,v2a,v2n,v2c,r2a,r2n,r2c,l2a,l2n,l2c,rowsR,X,R1,R2,T2,R3,R4,qh,qc,NV⟩,hj⟩:=hl;replace hA:Hid (RA=if poolB (lateS p q)=true then .inr (lateS p q) else .inl 5):=hA;have hq:CarQ q:=pU_ hp hd ho hR.out;have C6:Blk w6 w.heap.size _ _:=(hj.block _ (by omega)).trans C;have D6:Blk w6 (w.heap.size+2) _ _:=(hj.block _ (by omega)).trans D;have hb:=chainC hm hj (by omega);have qt:=hj.size
  obtain⟨vb,h7⟩:∃ vb,0<v2n->v2a=some ⟨vb,0,none⟩:=by
   rcases R2.own with⟨h1,h2,h3⟩ | ⟨b,h1,_⟩
   ·exact⟨0,fun h=>absurd h (by omega)⟩
   ·exact⟨b,fun _=>h1⟩
  have qd:v2n<=4194304:=by have h1:=R2.sl.len;have h2:=T2.len;have h3:=hq.vn;omega
  have h9:=m1_ hq.wide;have qo:=m1_ (aQ_ hp).2.2.1.wide;clear hR h8 hY C D hg hj;obtain⟨x0,x1,x2,x3,x4,x5⟩:=X.six';replace x0:=fun ob=>acell (w:=w6) ob x0;replace x1:=fun ob=>acell (w:=w6) ob x1;replace x2:=fun ob=>acell (w:=w6) ob x2;replace x3:=fun ob=>acell (w:=w6) ob x3;replace x4:=fun ob=>acell (w:=w6) ob x4;replace x5:=fun ob=>acell (w:=w6) ob x5;have qB:=@run_makeMap prog
  go_wp2_with fail
  have T0:=TlAt.made w6;have hJ:Below w6.heap.size w6 (w6.alloc (.map #[] 0)):=(Below.refl _ _).alloc (Zd _) _;clear x0 x1 x2 x3 x4 x5;generalize w6.alloc (.map #[] 0)=w7 at *;refine (bC_ w2.heap.size q.size q.next e2a e2n e2c v2a v2n v2c r2a r2n r2c l2a l2n l2c q.vs vb 0 h7 w7 ((RowsV.vs R2 T2.rows).below hJ) qd hq.str).mono ?_;rintro e w8 ⟨⟨mb,Dm,rfl,ql,qb,h6⟩,hs⟩;replace T0:=T0.below hs;replace hs:=chain hJ hs
  go_wp2_with fail
  refine (lg_ w2.heap.size mb vb 0 Dm v2a v2n q.vs h7 w8 qb h6 hq.nd ((RowsV.vs R2 T2.rows).below hs) hq.wide hq.wf).mono ?_;rintro e w9 ⟨⟨fa,fn,fc,rfl,qy,RF⟩,hE⟩;replace T0:=T0.below hE;replace hE:=chain hs hE;clear h6 qb hs hJ ql
  go_wp2_with fail
  refine (dF_ w6.heap.size 0 (fun _=>0) fa fn fc (walkL q.vs) w9 T0 RF.sl (hd_ hq.wf) (by omega) (by omega) (fun x hx=>by have:=h9 x hx;omega) (fun o=>by omega)).mono ?_;rintro e wA ⟨rfl,TA,gA⟩;have hH:=ao_ hE gA (Zd _);clear gA T0 RF hE;obtain⟨c0,c1,c2,c3,c4,c5⟩:=(C6.below hH).six'
  go_wp2_with fail
  refine (kY_ B0 _ p wA (hI.below (chain hb hH)) hd).mono ?_;rintro e wB ⟨⟨ka,kn,kc,rfl,qw,RK⟩,hG⟩;have qa:walkedL p=walkL p.vs:=by unfold walkedL;rw[if_pos hp]
  rw[qa] at RK;replace TA:=TA.below hG;replace hG:=chain hH hG;clear c0 c1 c2 c3 c4 c5 hH qa
  go_wp2_with fail
  refine (jz_ w6.heap.size (0+fn) _ ka kn kc (walkL p.vs) wB TA RK.sl (hd_ (ib_ hp hd).wf) (by omega) (by omega) (fun x hx=>by have:=qo x hx;omega) (fun o=>by have h1:=qe_ h9 (bR_ q.vs).1 o;omega)).mono ?_;rintro e wC ⟨rfl,TC,gC⟩;have hP:=ao_ hG gC (Zd _);have qs:=hP.size;clear gC TA RK hG;have XC:=X.below hP;obtain⟨y0,y1,y2,y3,y4,y5⟩:=XC.six'
  go_wp2_with fail
  have y5':wC.drew.cell? ⟨w3.heap.size,5,none⟩=some (.slice l2a l2n l2c):=y5;have hX:∀ u:World,Below wC.heap.size wC u->u.cell? ⟨w3.heap.size,5,none⟩=some (.slice l2a l2n l2c):=fun u hu=>bcell hu y5;clear y0 y1 y2 y3 y4 y5;have hT:(fun u:World=>u.cell? ⟨w3.heap.size,5,none⟩=some (.slice l2a l2n l2c)) wC.drew:=y5';refine ar_ (S:=(fun u:World=>u.cell? ⟨w3.heap.size,5,none⟩=some (.slice l2a l2n l2c))) 6 (by kernel_rfl) (by kernel_rfl) ?_;refine tk 0 ?_;refine tk 1 ?_;refine tk 2 ?_;refine oneL (i:=3) (by kernel_rfl) rfl (fun K hK=>?_);go_simp;refine (dG_ w6.heap.size (0+fn+kn) _ wC.drew TC (by omega)).mono ?_;rintro e wD ⟨⟨sa,sn,sc,L,rfl,qr,RS,q1,q2,q3,q4⟩,hV⟩;have hU:Below wC.heap.size wC wD:=chain (Below.refl _ wC).drew hV;have hL:L=sumC (walkL q.vs) (negC (walkL p.vs)):=g6_ q1 q2 q3 (fun o ho=>by rw[q4 o ho,ia_];omega) (bR_ q.vs).1 (bR_ q.vs).2.1 (oZ_ (bR_ p.vs).2.1) (hd_ hq.wf) (qf_ (hd_ (ib_ hp hd).wf));subst hL;have qz:=hU.size;have ha:=chain hP hU;dsimp only;refine hK.out _ _ (hX _ hU) (fun hHeld=>?_);clear hK K
  try simp only[Act.put,lsA,lsB,lsC]
  refine oneL (i:=4) (by kernel_rfl) rfl (fun K hK=>?_);obtain⟨i0,hi,qj,qk,qg⟩:=info_parts infoC;have qv:l2n<=200:=by rw[<-R4.sl.len];exact hq.ll
  refine aJ_ rfl (jE_ _ _ _ rfl w2.heap.size _ i0 _ 40 hi qj qk qg underlying33 rfl (by decide) aS_ a9_ l2a l2n l2c q.lt rfl (R4.below ha) sa sn sc (sumC (walkL q.vs) (negC (walkL p.vs))) rfl RS.sl (RS.hd.2.2 (show 0<wC.heap.size by omega)).2 (RS.hd.2.2 (show 0<wC.heap.size by omega)).1 r2a r2n r2c q.rf (R3.below ha) qh (l2n+sn) rfl (by unfold maxLen;omega) (by omega) (by omega) ?_);intro a10 cap10 wE row RL RR hf hk hW hN;have XA:=(X.below ha).ty hf hk (by decide);have CA:=(C6.below ha).ty hf hk (by decide);have DA:=(D6.below ha).ty hf hk (by decide);have E1:=(R1.below ha).ty hf hk (by decide);have E2:=(R2.below ha).ty hf hk (by decide);have E3:=(T2.below ha).ty hf hk (by decide) (by decide);have NE:=kp_ (T2.below ha) (dc_ T2 NV ha) hf hk (by decide);have hw:=(chain hb ha).grown hf (chain hb ha).size (fun j e=>by have:=hW j e;omega);have qp:=hf.size;refine hK.out _ _ (XA.cell 5) (fun hHeld=>?_);clear hK K
  try simp only[Act.put,lsA,lsB,lsC]
  refine tk 5 ?_;refine wpAnyH_done (by kernel_rfl) ?_ _;refine lastL rfl ?_;clear hX hT hHeld y5';have hc:=gset wE w3.heap.size 5 (.slice a10 (l2n+sn) cap10);have XL:Blk (wE.setCell ⟨w3.heap.size,5,none⟩ (.slice a10 (l2n+sn) cap10)) w3.heap.size #[.int .i64 q.size,.int .i64 q.next,.slice e2a e2n e2c,.slice v2a v2n v2c,.slice r2a r2n r2c,.slice a10 (l2n+sn) cap10] 35:=by simpa using XA.set 5 (.slice a10 (l2n+sn) cap10)
  have y5:=XA.cell 5;simp only[lgA,lgB,lgC] at y5;have g5:=XA.frozen 5;obtain⟨z0,z1,z2,z3,z4,z5⟩:=XL.six'
  go_wp2_with fail
  have CL:Blk _ w.heap.size _ _:=(hc.block _ CA.lt (by simp only[ne_eq,Zo];omega)).trans CA;have DL:Blk _ (w.heap.size+2) _ _:=(hc.block _ DA.lt (by simp only[ne_eq,Zo];omega)).trans DA;have PTL:PoolU w2.heap.size (wE.setCell ⟨w3.heap.size,5,none⟩ (.slice a10 (l2n+sn) cap10)) (.agg #[.int .i64 q.size,.int .i64 q.next,.slice e2a e2n e2c,.slice v2a v2n v2c,.slice r2a r2n r2c,.slice a10 (l2n+sn) cap10]) (lateS p q) rowsR:=⟨_,_,_,_,_,_,_,_,_,_,_,_,rfl,E1.ty hc (aa_ XA) (by decide),⟨E2.ty hc (aa_ XA) (by decide),E3.ty hc (aa_ XA) (by decide) (by decide)⟩,RR.ty hc (aa_ XA) (by decide),RL.ty hc (aa_ XA) (by decide),hN,qc,kp_ E3 NE hc (aa_ XA) (by decide)⟩;have h5:DimP (lateS p q):=hq.dim hd (by show (q.lt++sumC _ _).length<=_;rw[RL.sl.len];omega);have hO:=hw.grown hc hw.size (fun j e=>by cases e;omega);have qC:=hc.size;generalize wE.setCell ⟨w3.heap.size,5,none⟩ (.slice a10 (l2n+sn) cap10)=wF at *;refine (ch_ w2.heap.size _ (lateS p q) wF PTL.t.at' h5).mono ?_;rintro e wG ⟨rfl,hz⟩;have XG:=XL.below hz;have DG:=DL.below hz;have he:=chain hO hz;have qA:=hz.size;have PTG:=PTL.below hz;clear y5 g5 z0 z1 z2 z3 z4 z5 XA CA DA E1 E2 E3 NE RR RL R1 R2 T2 R3 R4 hc XL CL DL PTL
  cases hZ:poolB (lateS p q)
  ·rw[hZ,if_neg (by simp)] at hA;obtain⟨ea5,qi,qn⟩:=hS.after;have qe:=qi.below he;have hM:wG.drew.cell? ⟨2,0,none⟩=some (.iface 315 (.pointer (some ea5))):=qe;have DD:Blk wG.drew (w.heap.size+2) #[.int .i64 0,.int .i64 0,.slice none 0 0,.slice none 0 0,.slice none 0 0,.slice none 0 0] 35:=DG;have BB:Below w.heap.size w wG.drew:=he.drew
   go_wp2_with fail
   have hT:(fun u:World=>u.cell? ⟨2,0,none⟩=some (.iface 315 (.pointer (some ea5)))) wG.drew:=hM;refine aC_ (S:=(fun u:World=>u.cell? ⟨2,0,none⟩=some (.iface 315 (.pointer (some ea5))))) 6 (by kernel_rfl) rfl ?_;generalize wG.drew=wd at DD BB hM hT ⊢;obtain⟨x0,x1,x2,x3,x4,x5⟩:=DD.six';obtain⟨f0,f1,f2,f3,f4,f5⟩:=fz6 DD;refine tk 0 ?_;refine tk 1 ?_;refine tk 2 ?_;refine tk 3 ?_;refine oneL (i:=4) (by kernel_rfl) rfl (fun K hK=>?_);go_simp;obtain⟨W8,hh,W0,hn⟩:=set6 DD (.int .i64 0) (.int .i64 0) (.slice none 0 0) (.slice none 0 0) (.slice none 0 0) (.slice none 0 0);rw[<-hh];clear hh;have hQ:=hn.cell hM (by simp only[ne_eq,Zo];omega);refine hK.out _ _ hQ (fun hHeld=>?_);clear hK K
   try simp only[Act.put,lsA,lsB,lsC]
   refine tk 5 ?_;refine wpAnyH_done (by kernel_rfl) ?_ _;go_wp2;refine bodyPost_ret (ad_ rfl _ W8 (w.heap.size+2) _ _ _ _ _ rfl W0 underlying35 rfl (by kernel_rfl) rfl) rfl ?_;rw[hA.out];exact⟨⟨ea5,qn,rfl⟩,BB.grown hn BB.size (fun j e=>by cases e;omega)⟩
  ·rw[hZ,if_pos rfl] at hA;obtain⟨y0,y1,y2,y3,y4,y5⟩:=XG.six';obtain⟨x0,x1,x2,x3,x4,x5⟩:=DG.six';obtain⟨f0,f1,f2,f3,f4,f5⟩:=fz6 DG;go_wp2;obtain⟨W8,hh,W0,hn⟩:=set6 DG (.int .i64 q.size) (.int .i64 q.next) (.slice e2a e2n e2c) (.slice v2a v2n v2c) (.slice r2a r2n r2c) (.slice a10 (l2n+sn) cap10);have PF:=(PTG.tyP hn (aa_ DG)).mono (show w.heap.size<=w2.heap.size by omega);rw[<-hh];clear hh;refine bodyPost_ret (ad_ rfl _ W8 (w.heap.size+2) _ _ _ _ _ rfl W0 underlying35 rfl (by kernel_rfl) rfl) rfl ?_;rw[hA.out];exact⟨⟨_,_,rfl,PF,h5⟩,he.grown hn he.size (fun j e=>by cases e;omega)⟩
end
section
open Go.RowKit Go.Extern.Stop Go.Stop Go.Extern Tryz
def compX:Array Value->Sem Value:=Extern.ReflectliteType.method fun t=>do Rtype.noPackHeld "Comparable" t;pure (.bool (<-typeInfo t).comparable)
theorem isTypeOf (v:Value)(w:World):(Extern.ReflectliteType.typeOf #[.iface 315 v]).run prog w=.ok (.iface 220 (.agg #[.pointer (some ⟨11,315,none⟩)])) w:=by kernel_rfl
theorem isComparable (w:World):(compX #[.agg #[.pointer (some ⟨11,315,none⟩)]]).run prog w=.ok (.bool true) w:=by kernel_rfl
theorem isMethodComparable (v:Value)(w:World):(Go.method 447 220 v "Comparable").run prog w=.ok (246,v) w:=by kernel_rfl
theorem isComp:(prog.info? 315).map (·.comparable)=some true:=by kernel_rfl
theorem isSize:(prog.info? 335).map (·.size)=some 1:=by kernel_rfl
theorem noIsE (v:Value)(xT:TypeId)(w:World):(Instr.typeAssert (.iface 315 v) xT 222 true).run prog w=.ok (.tuple #[.nilIface,.bool false]) w:=run_typeAssert_lacksB underlying222 (by kernel_rfl) (by kernel_rfl) v xT w
theorem noUnwrapE (v:Value)(xT:TypeId)(w:World):(Instr.typeAssert (.iface 315 v) xT 225 true).run prog w=.ok (.tuple #[.nilIface,.bool false]) w:=run_typeAssert_lacksB underlying225 (by kernel_rfl) (by kernel_rfl) v xT w
theorem noUnwrapsE (v:Value)(xT:TypeId)(w:World):(Instr.typeAssert (.iface 315 v) xT 227 true).run prog w=.ok (.tuple #[.nilIface,.bool false]) w:=run_typeAssert_lacksB underlying227 (by kernel_rfl) (by kernel_rfl) v xT w
theorem noIsR (v:Value)(xT:TypeId)(w:World):(Instr.typeAssert (.iface 69 v) xT 222 true).run prog w=.ok (.tuple #[.nilIface,.bool false]) w:=run_typeAssert_lacksB underlying222 (by kernel_rfl) (by kernel_rfl) v xT w
theorem hasUnwrapR (v:Value)(xT:TypeId)(w:World):(Instr.typeAssert (.iface 69 v) xT 225 true).run prog w=.ok (.tuple #[.iface 69 v,.bool true]) w:=run_typeAssert_hasB underlying225 (by kernel_rfl) v xT w
theorem methodUnwrapR (v:Value)(w:World):(Go.method 447 69 v "Unwrap").run prog w=.ok (234,v) w:=by kernel_rfl
theorem enterUnwrapR (v:Value)(w:World):(callFunc 234 #[v]).run prog w=.ok (.enter 234 #[v]) w:=by kernel_rfl
theorem qg_ (b:Addr)(w:World):
  Calls prog 32 #[.nilIface,.iface 315 (.pointer (some b))] w fun e w'=>e=.returned (.bool false)∧w'=w:=by
 have hn:=run_eql_iface_nil_left (P:=prog) w 315 (.pointer (some b)) underlying64;go_enter func32,ntmps32;go_wp2;go_ret;exact⟨rfl,rfl⟩
theorem lj_ (c:Int)(b:Addr)(w:World):
  Calls prog 32 #[.iface 69 (.agg #[.int .i64 c,.iface 315 (.pointer (some b))]),.iface 315 (.pointer (some b))] w fun e w'=>e=.returned (.bool true)∧Below w.heap.size w w':=by
 obtain⟨i,hi,ha⟩:=ZW.1 isComp;obtain⟨j,hj,hb⟩:=ZW.1 isSize;have h8:=@run_callFunc_extern prog 76 _ Extern.ReflectliteType.typeOf func76 (by kernel_rfl) (by kernel_rfl) (by kernel_rfl) (by kernel_rfl);have hc:=@run_callFunc_extern prog 246 _ compX func246 (by kernel_rfl) (by kernel_rfl) (by kernel_rfl) (by kernel_rfl);have tT:=isTypeOf;have cT:=isComparable;have mR:=isMethodComparable;have nE:=noIsE;have uE:=noUnwrapE;have vE:=noUnwrapsE;have nW:=noIsR;have uW:=hasUnwrapR;have mU:=methodUnwrapR;have eU:=enterUnwrapR;have hf:=fun w=>run_eql_iface_ptr_same (P:=prog) w b underlying64 underlying315 hi ha hj;have he:=fun w=>run_eql_iface_types (P:=prog) 69 315 (.agg #[.int .i64 c,.iface 315 (.pointer (some b))]) (.pointer (some b)) underlying64 (by decide) w;go_enter func32,ntmps32;go_wp2;refine wp_loop_rounds 2 ?_;rw[rounds_succ];go_wp2;rw[rounds_succ];go_wp2;go_ret;exact⟨rfl,by go_grown⟩
theorem jH_ (c:Int)(a b:Addr)(ca cb:Array Value)(ta tb:TypeId)(w:World)(hne:a≠b)(ha:w.heap[a.block]?=some (.cells ca ta (0,0)))(hb:w.heap[b.block]?=some (.cells cb tb (0,0))):
  Calls prog 32 #[.iface 69 (.agg #[.int .i64 c,.iface 315 (.pointer (some a))]),.iface 315 (.pointer (some b))] w fun e w'=>e=.returned (.bool false)∧Below w.heap.size w w':=by
 obtain⟨i,hi,hc⟩:=ZW.1 isComp;obtain⟨j,hj,hh⟩:=ZW.1 isSize;have h8:=@run_callFunc_extern prog 76 _ Extern.ReflectliteType.typeOf func76 (by kernel_rfl) (by kernel_rfl) (by kernel_rfl) (by kernel_rfl);have hk:=@run_callFunc_extern prog 246 _ compX func246 (by kernel_rfl) (by kernel_rfl) (by kernel_rfl) (by kernel_rfl);have tT:=isTypeOf;have cT:=isComparable;have mR:=isMethodComparable;have nE:=noIsE;have uE:=noUnwrapE;have vE:=noUnwrapsE;have nW:=noIsR;have uW:=hasUnwrapR;have mU:=methodUnwrapR;have eU:=enterUnwrapR;have he:=fun (u:World) (hu:Below w.heap.size w u)=>run_eql_iface_ptr_other (P:=prog) u underlying64 underlying315 hi hc hj (by rw[hh];decide) hne (by rw[hu.block _ (ZG.1 ha).1];exact ha) (by rw[hu.block _ (ZG.1 hb).1];exact hb);have hl:=fun w=>run_eql_iface_types (P:=prog) 69 315 (.agg #[.int .i64 c,.iface 315 (.pointer (some a))]) (.pointer (some b)) underlying64 (by decide) w;have hf:=he w (Below.refl _ _);have hg:=fun ob=>he (w.alloc ob) ((Below.refl _ _).alloc (Zd _) _);clear he;go_enter func32,ntmps32;go_wp2;refine wp_loop_rounds 2 ?_;rw[rounds_succ];go_wp2;rw[rounds_succ];go_wp2;go_ret;exact⟨rfl,by go_grown⟩
def hnd (t:Nat):Value:=.pointer (some ⟨11,t,none⟩)
def valueOfX:Array Value->Sem Value:=fun args=>ReflectliteValue.unpack (args.getD 0 (.tuple #[]))
def typeX:Array Value->Sem Value:=ReflectliteValue.methodAny (ReflectliteValue.valueError "reflectlite.Value.Type" 0) fun t _ _ _=>ReflectliteType.toType t
def isNilX:Array Value->Sem Value:=ReflectliteValue.method (ReflectliteValue.valueError "reflectlite.Value.IsNil" 0) ReflectliteValue.isNil
def elemVX:Array Value->Sem Value:=ReflectliteValue.method (ReflectliteValue.valueError "reflectlite.Value.Elem" 0) ReflectliteValue.elem
def elemTX:Array Value->Sem Value:=ReflectliteType.method ReflectliteType.elem
def kindX:Array Value->Sem Value:=ReflectliteType.abiMethod fun t=>do pure (.int .u8 (<-Rtype.kind t))
def implX:Array Value->Sem Value:=ReflectliteType.relation "Implements" ReflectliteType.implements_
def assX:Array Value->Sem Value:=ReflectliteType.relation "AssignableTo" ReflectliteType.assignableTo
theorem asTypeOf (v:Value)(w:World):(Extern.ReflectliteType.typeOf #[.iface 69 v]).run prog w=.ok (.iface 220 (.agg #[.pointer (some ⟨11,69,none⟩)])) w:=by kernel_rfl
theorem asValuePtr (q:Addr)(w:World):(valueOfX #[.iface 71 (.pointer (some q))]).run prog w=.ok (.agg #[.pointer (some ⟨11,71,none⟩),.pointer (some ⟨w.heap.size,0,none⟩),.int .u64 150]) (w.alloc (.cells #[.pointer (some q)] 71)):=by kernel_rfl
theorem asType (p:Addr)(w:World):(typeX #[.agg #[.pointer (some ⟨11,71,none⟩),.pointer (some p),.int .u64 150]]).run prog w=.ok (.iface 220 (.agg #[.pointer (some ⟨11,71,none⟩)])) w:=by kernel_rfl
theorem asMethodKind (h:Value)(w:World):(Go.method 447 220 (.agg #[h]) "Kind").run prog w=.ok (230,h) w:=by kernel_rfl
theorem asMethodElem (v:Value)(w:World):(Go.method 447 220 v "Elem").run prog w=.ok (247,v) w:=by kernel_rfl
theorem asMethodImpl (v:Value)(w:World):(Go.method 447 220 v "Implements").run prog w=.ok (248,v) w:=by kernel_rfl
theorem asMethodAss (v:Value)(w:World):(Go.method 447 220 v "AssignableTo").run prog w=.ok (245,v) w:=by kernel_rfl
theorem asKindPtr (w:World):(kindX #[.pointer (some ⟨11,71,none⟩)]).run prog w=.ok (.int .u8 22) w:=by kernel_rfl
theorem asKindRef (w:World):(kindX #[.pointer (some ⟨11,69,none⟩)]).run prog w=.ok (.int .u8 25) w:=by kernel_rfl
theorem asElemT (w:World):(elemTX #[.agg #[.pointer (some ⟨11,71,none⟩)]]).run prog w=.ok (.iface 220 (.agg #[.pointer (some ⟨11,69,none⟩)])) w:=by kernel_rfl
theorem asImpl (w:World):(implX #[.agg #[.pointer (some ⟨11,69,none⟩)],.iface 220 (.agg #[.pointer (some ⟨11,64,none⟩)])]).run prog w=.ok (.bool true) w:=by kernel_rfl
theorem asAss (w:World):(assX #[.agg #[.pointer (some ⟨11,69,none⟩)],.iface 220 (.agg #[.pointer (some ⟨11,69,none⟩)])]).run prog w=.ok (.bool true) w:=by kernel_rfl
theorem asValueRef (c:Int)(a:Addr)(w:World):(valueOfX #[.iface 69 (.agg #[.int .i64 c,.iface 315 (.pointer (some a))])]).run prog w=.ok (.agg #[.pointer (some ⟨11,69,none⟩),.pointer (some ⟨w.heap.size,0,none⟩),.int .u64 153]) (w.alloc (.cells #[.int .i64 c,.iface 315 (.pointer (some a))] 69)):=by kernel_rfl
theorem partsPtr (p:Addr)(w:World):(ReflectliteValue.parts (.agg #[.pointer (some ⟨11,71,none⟩),.pointer (some p),.int .u64 150])).run prog w=.ok (some (71,p,150)) w:=by kernel_rfl
theorem partsRef (p:Addr)(w:World):(ReflectliteValue.parts (.agg #[.pointer (some ⟨11,69,none⟩),.pointer (some p),.int .u64 153])).run prog w=.ok (some (69,p,153)) w:=by kernel_rfl
theorem partsDst (p:Addr)(w:World):(ReflectliteValue.parts (.agg #[.pointer (some ⟨11,69,none⟩),.pointer (some p),.int .u64 409])).run prog w=.ok (some (69,p,409)) w:=by kernel_rfl
theorem asDirect (w:World):(Rtype.directlyAssignable 69 69).run prog w=.ok true w:=by kernel_rfl
theorem asElem? (w:World):(Rtype.elem? 71).run prog w=.ok (some 69) w:=by kernel_rfl
theorem asMk (p:Addr)(w:World):(ReflectliteValue.mk 69 p ReflectliteValue.flagAddr).run prog w=.ok (.agg #[.pointer (some ⟨11,69,none⟩),.pointer (some p),.int .u64 409]) w:=by kernel_rfl
theorem asIsNil (p q:Addr)(w:World)(h:(loadVar 71 p).run prog w=.ok (.pointer (some q)) w):(isNilX #[.agg #[.pointer (some ⟨11,71,none⟩),.pointer (some p),.int .u64 150]]).run prog w=.ok (.bool false) w:=by
 show Sem.run prog (bind (ReflectliteValue.parts (.agg #[.pointer (some ⟨11,71,none⟩),.pointer (some p),.int .u64 150])) _) w=_;simp[partsPtr,ReflectliteValue.isNil,h]
theorem asElemV (p q:Addr)(w:World)(h:(loadVar 71 p).run prog w=.ok (.pointer (some q)) w):(elemVX #[.agg #[.pointer (some ⟨11,71,none⟩),.pointer (some p),.int .u64 150]]).run prog w=.ok (.agg #[.pointer (some ⟨11,69,none⟩),.pointer (some q),.int .u64 409]) w:=by
 show Sem.run prog (bind (ReflectliteValue.parts (.agg #[.pointer (some ⟨11,71,none⟩),.pointer (some p),.int .u64 150])) _) w=_;simp[partsPtr,ReflectliteValue.elem,h,asElem?,asMk]
theorem asSet (p q:Addr)(v:Value)(w w':World)(h:(loadVar 69 q).run prog w=.ok v w)(h':(storeVar 69 p v).run prog w=.ok () w'):(ReflectliteValue.set #[.agg #[.pointer (some ⟨11,69,none⟩),.pointer (some p),.int .u64 409],.agg #[.pointer (some ⟨11,69,none⟩),.pointer (some q),.int .u64 153]]).run prog w=.ok (.tuple #[]) w':=by
 show Sem.run prog (bind (ReflectliteValue.parts (.agg #[.pointer (some ⟨11,69,none⟩),.pointer (some p),.int .u64 409])) (fun _=>bind (ReflectliteValue.parts (.agg #[.pointer (some ⟨11,69,none⟩),.pointer (some q),.int .u64 153])) _)) w=_;simp[partsDst,partsRef,h,asDirect,h',ReflectliteValue.flagAddr]
theorem qh_ (t:Value)(w:World):
  Calls prog 33 #[.nilIface,t] w fun e w'=>e=.returned (.bool false)∧w'=w:=by
 go_enter func33,ntmps33;go_wp2;go_ret;exact⟨rfl,rfl⟩
theorem lk_ (p q:Addr)(w:World)(h:w.cell? p=some (.pointer (some q))):(loadVar 71 p).run prog w=.ok (.pointer (some q)) w:=by
 simp[loadVar,isAgg,underlying,underlying71,h,Result.andThen]
theorem refInfo:(prog.info? 69).map (·.size)=some 2:=by kernel_rfl
theorem o3_ (b:Nat)(x y:Value)(w:World)(h:Blk w b #[x,y] 69):(loadVar 69 ⟨b,0,none⟩).run prog w=.ok (.agg #[x,y]) w:=
 run_loadVar_row w b 69 69 #[x,y] _ _ h underlying69 rfl refInfo
theorem nU_ (b:Nat)(c0 c1:Value)(c:Int)(a:Addr)(w:World)(h:Blk w b #[c0,c1] 69):(storeVar 69 ⟨b,0,none⟩ (.agg #[.int .i64 c,.iface 315 (.pointer (some a))])).run prog w=.ok () ((w.setCell ⟨b,0,none⟩ (.int .i64 c)).setCell ⟨b,1,none⟩ (.iface 315 (.pointer (some a)))):=by
 have x0:w.cell? ⟨b,0,none⟩=some c0:=h.cell 0;have f0:=h.frozen 0;have h1:=h.set 0 (.int .i64 c);have x1:(w.setCell ⟨b,0,none⟩ (.int .i64 c)).cell? ⟨b,1,none⟩=some c1:=by rw[h1.cell];rfl
 have f1:=h1.frozen 1;simp[storeVar,Value.cells,storeCells,Addr.add];rw[run_store prog w ⟨b,0,none⟩ _ _ (by rfl)];simp[x0,f0,Result.andThen];rw[run_store prog _ ⟨b,1,none⟩ _ _ (by rfl)];simp[x1,f1]
theorem qi_ (c:Int)(a:Addr)(b:Nat)(c0 c1:Value)(w:World)(hg:w.cell? ⟨3,0,none⟩=some (.iface 220 (.agg #[.pointer (some ⟨11,64,none⟩)])))(hb:Blk w b #[c0,c1] 69):
  Calls prog 33 #[.iface 69 (.agg #[.int .i64 c,.iface 315 (.pointer (some a))]),.iface 71 (.pointer (some ⟨b,0,none⟩))] w fun e w'=>e=.returned (.bool true)∧Blk w' b #[.int .i64 c,.iface 315 (.pointer (some a))] 69∧w.grownBy w' (some b):=by
 have hV:=@run_callFunc_extern prog 78 _ valueOfX func78 (by kernel_rfl) (by kernel_rfl) (by kernel_rfl) (by kernel_rfl);have hT:=@run_callFunc_extern prog 79 _ typeX func79 (by kernel_rfl) (by kernel_rfl) (by kernel_rfl) (by kernel_rfl);have hN:=@run_callFunc_extern prog 80 _ isNilX func80 (by kernel_rfl) (by kernel_rfl) (by kernel_rfl) (by kernel_rfl);have hK:=@run_callFunc_extern prog 230 _ kindX func230 (by kernel_rfl) (by kernel_rfl) (by kernel_rfl) (by kernel_rfl);have hE:=@run_callFunc_extern prog 247 _ elemTX func247 (by kernel_rfl) (by kernel_rfl) (by kernel_rfl) (by kernel_rfl);have hI:=@run_callFunc_extern prog 248 _ implX func248 (by kernel_rfl) (by kernel_rfl) (by kernel_rfl) (by kernel_rfl);have hO:=@run_callFunc_extern prog 76 _ Extern.ReflectliteType.typeOf func76 (by kernel_rfl) (by kernel_rfl) (by kernel_rfl) (by kernel_rfl);have hS:=@run_callFunc_extern prog 245 _ assX func245 (by kernel_rfl) (by kernel_rfl) (by kernel_rfl) (by kernel_rfl);have hL:=@run_callFunc_extern prog 133 _ elemVX func133 (by kernel_rfl) (by kernel_rfl) (by kernel_rfl) (by kernel_rfl);have hQ:=@run_callFunc_extern prog 134 _ ReflectliteValue.set func134 (by kernel_rfl) (by kernel_rfl) (by kernel_rfl) (by kernel_rfl);have t1:=asTypeOf;have t2:=asValuePtr;have t3:=asType;have t4:=asMethodKind;have t5:=asMethodElem;have t6:=asMethodImpl;have t7:=asMethodAss;have t8:=asKindPtr;have t9:=asKindRef;have ta:=asElemT;have tb:=asImpl;have tc:=asAss;have td:=asValueRef;obtain⟨W1,hh⟩:∃ W,W=w.alloc (.cells #[.pointer (some ⟨b,0,none⟩)] 71):=⟨_,rfl⟩;obtain⟨W2,ha⟩:∃ W,W=(w.alloc (.cells #[.pointer (some ⟨b,0,none⟩)] 71)).alloc (.cells #[.pointer (some ⟨11,71,none⟩),.pointer (some ⟨w.heap.size,0,none⟩),.int .u64 150] 134):=⟨_,rfl⟩;obtain⟨W3,he⟩:∃ W,W=((w.alloc (.cells #[.pointer (some ⟨b,0,none⟩)] 71)).alloc (.cells #[.pointer (some ⟨11,71,none⟩),.pointer (some ⟨w.heap.size,0,none⟩),.int .u64 150] 134)).alloc (.cells #[.pointer (some ⟨11,71,none⟩),.pointer (some ⟨w.heap.size,0,none⟩),.int .u64 150] 134):=⟨_,rfl⟩;obtain⟨W4,hc⟩:∃ W,W=(((w.alloc (.cells #[.pointer (some ⟨b,0,none⟩)] 71)).alloc (.cells #[.pointer (some ⟨11,71,none⟩),.pointer (some ⟨w.heap.size,0,none⟩),.int .u64 150] 134)).alloc (.cells #[.pointer (some ⟨11,71,none⟩),.pointer (some ⟨w.heap.size,0,none⟩),.int .u64 150] 134)).alloc (.cells #[.int .i64 c,.iface 315 (.pointer (some a))] 69):=⟨_,rfl⟩;have B2:Below w.heap.size w W2:=by rw[ha];go_grown
 have B4:Below w.heap.size w W4:=by rw[hc];go_grown
 have p2:Blk W2 w.heap.size #[.pointer (some ⟨b,0,none⟩)] 71:=by rw[ha];exact (Blk.new w _ _).alloc _
 have p3:Blk W3 w.heap.size #[.pointer (some ⟨b,0,none⟩)] 71:=by rw[he];exact ((Blk.new w _ _).alloc _).alloc _
 have r4:Blk W4 (w.heap.size+1+1+1) #[.int .i64 c,.iface 315 (.pointer (some a))] 69:=by rw[hc];exact Blk.new' _ _ _ _ (by simp)
 have b4:=hb.below B4;have hj:=hb.lt;have n1:=asIsNil ⟨w.heap.size,0,none⟩ ⟨b,0,none⟩ W2 (lk_ _ _ _ (p2.cell 0));have n2:=asElemV ⟨w.heap.size,0,none⟩ ⟨b,0,none⟩ W3 (lk_ _ _ _ (p3.cell 0));have n3:=asSet ⟨b,0,none⟩ ⟨w.heap.size+1+1+1,0,none⟩ _ W4 _ (o3_ _ _ _ _ r4) (nU_ b c0 c1 c a W4 b4);have hf:=bcell B2 hg
 have E8:Blk ((W4.setCell ⟨b,0,none⟩ (.int .i64 c)).setCell ⟨b,1,none⟩ (.iface 315 (.pointer (some a)))) b #[.int .i64 c,.iface 315 (.pointer (some a))] 69:=by
  have:=(b4.set 0 (.int .i64 c)).set 1 (.iface 315 (.pointer (some a)))
  simpa using this
 have G8:w.grownBy ((W4.setCell ⟨b,0,none⟩ (.int .i64 c)).setCell ⟨b,1,none⟩ (.iface 315 (.pointer (some a)))) (some b):=af_ (af_ (au_ (World.grownBy.refl _ _) B4) _ _) _ _;rw[ha] at n1 hf;rw[he] at n2;rw[hc] at n3 E8 G8;clear hh ha he hc B2 B4 p2 p3 r4 b4;go_enter func33,ntmps33;go_wp2;refine wp_loop_rounds 1 ?_;rw[rounds_succ];go_wp2;go_ret;exact⟨rfl,E8,G8⟩
end
section
open Go Go.RowKit Go.BigFrame Tryz
variable{a:Option Addr}{w:World}
structure Errs (S:Addr->Prop)(ep:Addr)(w:World):Prop where
 s:Sens S w
 pool:SenAt w 0 ep
 ne:∀ a,S a->a≠ep
 blk:∃ c t,w.heap[ep.block]?=some (.cells c t (0,0))
 blks:∀ a,S a->∃ c t,w.heap[a.block]?=some (.cells c t (0,0))
 ty:w.cell? ⟨3,0,none⟩=some (.iface 220 (.agg #[.pointer (some ⟨11,64,none⟩)]))
end
end Go.Proofs.YtbbhcnjhohidnaaGreatDoor
