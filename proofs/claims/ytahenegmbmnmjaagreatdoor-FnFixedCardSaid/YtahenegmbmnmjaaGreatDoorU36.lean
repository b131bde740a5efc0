/- Ground. -/
import Derived.Test.YtahenegmbmnmjaaGreatDoorU35
set_option maxHeartbeats 20000000
set_option maxRecDepth 100000
namespace Go.Proofs.YtahenegmbmnmjaaGreatDoor
open Go Go.RowKit Go.BigFrame Tryz
variable{file:ByteArray}{its:List It}{rows:List VR}{l:List Vo}{B i:Nat}{p q:Po}{v:Value}{y:Vo}{w w':World}
theorem lh_ {name:ByteArray}(hp:Ai p=true)(hd:AC p)(hn:nameB name=true)(hi:its.length<=6∧∀ x∈its,nameB x.nm=true∧Ac x.ps=true)(h:Do p name its=.inr q):CW q:=by
 have hb:=ib_ hp hd;obtain⟨v6,_,n1,_,_⟩:=bL_ hp;obtain⟨_,⟨n0,_⟩,_⟩:=aQ_ hp;unfold Do at h;split at h
 ·cases h
 ·rename_i hno;injection h with h;subst h;refine⟨by simp;omega,fun v hv=>?_,?_,hb.el,hb.es,hb.rl,hb.rs,hb.ll,hb.ls⟩
  ·rcases Zs.1 hv with hv | hv
   ·exact hb.g v hv
   ·simp only[YP] at hv;subst hv;exact⟨n0,n1,hn,hi.1,hi.2⟩
  ·rw[List.map_append,Yf];refine⟨hb.nd,by simp,fun a ha b hc=>?_⟩;simp only[YD,List.map_nil,YP] at hc;subst hc;obtain⟨v,hv,rfl⟩:=ZT.1 ha;unfold volI at hno
   have:=YL.1 hno v hv
   simpa using this
theorem pU_ {o:Opr}(hp:Ai p=true)(hd:AC p)(ho:opB o=true)(h:Dy p o.k o.vol o.file o.to o.into o.at' o.fr o.ln o.data=.inr q):CW q:=by
 have hb:=ib_ hp hd;have hf:=h5_ ho;by_cases hk:o.k=9
 ·rw[i3_ hk] at h;injection h with h;subst h;have hr:=c6_ hp;rw[lf_ hp];refine⟨hb.vn,hb.g,hb.nd,?_,fun x hx=>hb.es x (YG.1 hx).1,(a0_ hr).1,g7_ hb.rs hb.ls,Zg _,fun c hc=>by cases hc⟩
  have:=Yc (fun e:Ex=>(AR p.rf p.lt).any (fun c=>c.o.a==e.a)) p.ex
  have h2:=hb.el;show (p.ex.filter _).length<=_;omega
 unfold opB at ho;unfold Dy at h;rcases hf with e | e | e | e | e | e | e | e | e | e
 ·simp[e] at ho h;exact lh_ hp hd ho.1 ⟨by simp,fun x hx=>by cases hx⟩ h
 ·simp[e] at ho h;obtain⟨i,y,h1,h2,h3⟩:=bY_ h;have hy:=cQ_ hp y (Zc h2);unfold Cj at h3
  cases he:AW p.size p.ex o.data with
  |none=>rw[he] at h3;cases h3
  |some r=>
   obtain⟨L,a⟩:=r;rw[he] at h3;simp only at h3
   cases hl:Bw y o.file ((AP y o.file).getD []) o.at' [⟨a,0,o.data.size⟩] with
   |inl c=>rw[hl] at h3;cases h3
   |inr its=>
    rw[hl] at h3;injection h3 with h3;subst h3;obtain⟨ps,ha,rfl⟩:=eW_ hl
    have hE:L.length<=60∧BS L:=by
     have hj:=l6_ ho.1.2;have hh:=hb.el;unfold AW at he;split at he
     ·rename_i hc;obtain⟨x,_,hx⟩:=ZW.1 he;injection hx with hx _;subst hx;have hg:=hc.2.2;refine⟨by unfold Cy;simp;omega,fun z hz=>?_⟩;unfold Cy at hz;rcases Zs.1 hz with hz | hz
      ·rcases Zs.1 hz with hz | hz
       ·exact hb.es z (ZX hz)
       ·simp only[YP] at hz;subst hz;simp only;omega
      ·exact hb.es z (List.mem_of_mem_drop hz)
     ·cases he
    exact hb.set (z:={y with its:=Ba ⟨o.file,ps⟩ y.its}) h2 rfl (hc_ hy.1 hy.2 ho.1.1.1.2 ha) hE.1 hE.2
 ·simp[e] at ho h;obtain⟨i,y,h1,h2,h3⟩:=bY_ h;have hy:=cQ_ hp y (Zc h2);refine eX_ hp hd h2 (fun its hi=>?_) h3;unfold Ef at hi;split at hi
  ·cases hi
  ·obtain⟨ps,ha,rfl⟩:=eW_ hi;exact hc_ hy.1 hy.2 ho.1.1.2 ha
 ·simp[e] at ho h;obtain⟨i,y,h1,h2,h3⟩:=bY_ h;have hy:=cQ_ hp y (Zc h2);refine eX_ hp hd h2 (fun its hi=>?_) h3;unfold BO at hi;split at hi
  ·cases hi
  ·injection hi with hi;subst hi;obtain⟨⟨a1,a2,a3,a4,a5⟩,_⟩:=hy;refine⟨a1,a2,a3,?_,fun x hx=>a5 x (YG.1 hx).1⟩
   have:=Yc (fun t:It=>!(t.nm.toList==o.file.toList)) y.its
   simp only;omega
 ·simp[e] at ho h;obtain⟨i,y,h1,h2,h3⟩:=bY_ h;have hy:=cQ_ hp y (Zc h2);refine eX_ hp hd h2 (fun its hi=>?_) h3;unfold CF at hi;split at hi
  ·cases hi
  ·split at hi
   ·cases hi
   ·split at hi
    ·cases hi
    ·obtain⟨ps,ha,rfl⟩:=eW_ hi;exact hc_ hy.1 hy.2 ho.1.1.1.1.2 ha
 ·simp[e] at ho h;obtain⟨i,y,h1,h2,h3⟩:=bY_ h;obtain⟨⟨a1,a2,a3,a4,a5⟩,_⟩:=cQ_ hp y (Zc h2);exact lh_ hp hd ho.1.2 ⟨a4,a5⟩ h3
 ·simp[e] at ho h;obtain⟨i,y,h1,h2,h3⟩:=bY_ h;injection h3 with h3;subst h3;have hm:=Yc (fun v:Vo=>!(v.nm.toList==o.vol.toList)) p.vs;have h7:=hb.vn;refine⟨?_,fun v hv=>hb.g v (YG.1 hv).1,hb.nd.sublist (List.filter_sublist.map _),hb.el,hb.es,hb.rl,hb.rs,hb.ll,hb.ls⟩;show (p.vs.filter _).length<=_;omega
 ·simp[e] at ho h;obtain⟨i,y,h1,h2,h3⟩:=bY_ h;have hy:=cQ_ hp y (Zc h2);split at h3
  ·cases h3
  ·injection h3 with h3;subst h3;exact hb.set (z:={y with fx:=true}) h2 rfl hy.1 hb.el hb.es
 ·exact absurd e hk
 ·simp[e] at ho h;obtain⟨i,y,h1,h2,h3⟩:=bY_ h;have hy:=cQ_ hp y (Zc h2);refine eX_ hp hd h2 (fun its hi=>?_) h3;unfold Ci at hi;split at hi
  ·cases hi
  ·obtain⟨ps,ha,rfl⟩:=eW_ hi;exact hc_ hy.1 hy.2 ho.1.1.1.2 ha
def Eu:Value:=.agg #[.int .i64 0,.int .i64 0,.slice none 0 0,.slice none 0 0,.slice none 0 0,.slice none 0 0]
def Ij (S:Addr->Prop)(B:Nat)(e:Ending)(w':World):Int⊕Po->Prop
 |.inl c=>∃ a,S a∧e=.returned (.tuple #[Eu,BL c a])
 |.inr q=>∃ v rows,e=.returned (.tuple #[v,.nilIface])∧BI B w' v q rows∧AC q
theorem BI.below (h:BI B w v p rows)(hb:Below w.heap.size w w'):BI B w' v p rows:=by
 obtain⟨ea,en,ec,va,vn,vc,ra,rn,rc,la,ln,lc,hv,h1,⟨h2,h3⟩,h4,h5,h6,h7,h8⟩:=h;exact⟨ea,en,ec,va,vn,vc,ra,rn,rc,la,ln,lc,hv,h1.below hb,⟨h2.below hb,h3.below hb⟩,h4.below hb,h5.below hb,h6,h7,dc_ h3 h8 hb⟩
theorem BI.mono {B':Nat}(h:BI B w v p rows)(hb:B'<=B):BI B' w v p rows:=by
 obtain⟨ea,en,ec,va,vn,vc,ra,rn,rc,la,ln,lc,hv,h1,⟨h2,h3⟩,h4,h5,h6,h7,h8⟩:=h;exact⟨ea,en,ec,va,vn,vc,ra,rn,rc,la,ln,lc,hv,h1.mono hb,⟨h2.mono hb,h3.mono hb⟩,h4.mono hb,h5.mono hb,h6,h7,h8⟩
theorem BI.tyP {row:Option Nat}(h:BI B w v p rows)(hg:w.grownBy w' row)(hr:BA w row 35):BI B w' v p rows:=by
 obtain⟨ea,en,ec,va,vn,vc,ra,rn,rc,la,ln,lc,hv,h1,⟨h2,h3⟩,h4,h5,h6,h7,h8⟩:=h;exact⟨ea,en,ec,va,vn,vc,ra,rn,rc,la,ln,lc,hv,h1.ty hg hr (by decide),⟨h2.ty hg hr (by decide),h3.ty hg hr (by decide) (by decide)⟩,h4.ty hg hr (by decide),h5.ty hg hr (by decide),h6,h7,kp_ h3 h8 hg hr (by decide)⟩
def Hk (p:Po):Int⊕Po->Int⊕Po
 |.inl c=>.inl c
 |.inr q=>if Ai (A7 p q)=true then .inr (A7 p q) else .inl 5
def GO (p:Po)(o:Opr):Int⊕Po:=Hk p (Dy p o.k o.vol o.file o.to o.into o.at' o.fr o.ln o.data)
theorem li_ (ep:Addr)(B0:Nat)(v:Value)(p:Po)(o:Opr)(w:World)(h:AG B0 w v p)(hd:AC p)(hp:Ai p=false)(hep:BD w 0 ep):
  Calls prog 57 #[v,.agg #[.int .i64 o.k,.string o.vol,.string o.file,.string o.to,.string o.into,.int .i64 o.at',.int .i64 o.fr,.int .i64 o.ln,.string o.data]] w fun e w'=>e=.returned (.tuple #[Eu,BL 1 ep])∧Below w.heap.size w w':=by
 have hh:=h;obtain⟨ea,en,ec,va,vn,vc,ra,rn,rc,la,ln,lc,rfl,_⟩:=h;go_enter func57,ntmps57
 go_wp2_with fail
 refine (ch_ B0 _ p _ (hh.below (by go_grown)) hd).mono ?_;rintro e w1 ⟨rfl,he⟩;obtain⟨C,O,D,ha,hk⟩:=bx3 he;clear he;have hq:=hep.below ha;rw[hp];have hb:w1.drew.cell? ⟨0,0,none⟩=some (.iface 348 (.pointer (some ep))):=hq;have DD:Blk w1.drew (w.heap.size+2) #[.int .i64 0,.int .i64 0,.slice none 0 0,.slice none 0 0,.slice none 0 0,.slice none 0 0] 35:=D;have BB:Below w.heap.size w w1.drew:=ha.drew
 go_wp2_with fail
 have hj:(fun u:World=>u.cell? ⟨0,0,none⟩=some (.iface 348 (.pointer (some ep)))) w1.drew:=hb;refine aC_ (S:=(fun u:World=>u.cell? ⟨0,0,none⟩=some (.iface 348 (.pointer (some ep))))) 6 (by kernel_rfl) rfl ?_;generalize w1.drew=wd at DD BB hb hj ⊢;obtain⟨x0,x1,x2,x3,x4,x5⟩:=DD.six';obtain⟨f0,f1,f2,f3,f4,f5⟩:=fz6 DD;refine tk 0 ?_;refine tk 1 ?_;refine tk 2 ?_;refine tk 3 ?_;refine AX (i:=4) (by kernel_rfl) rfl (fun K hK=>?_);go_simp;obtain⟨W8,hf,W0,hg⟩:=AV DD (.int .i64 0) (.int .i64 0) (.slice none 0 0) (.slice none 0 0) (.slice none 0 0) (.slice none 0 0);rw[<-hf];clear hf;have hc:=hg.cell hb (by simp only[ne_eq,Zo];omega);refine hK.out _ _ hc (fun hHeld=>?_);clear hK K
 try simp only[Act.put,lsA,lsB,lsC]
 refine tk 5 ?_;refine wpAnyH_done (by kernel_rfl) ?_ _;go_wp2;refine YW (ad_ rfl _ W8 (w.heap.size+2) _ _ _ _ _ rfl W0 underlying35 rfl (by kernel_rfl) rfl) rfl ?_;exact⟨rfl,BB.grown hg BB.size (fun j e=>by cases e;omega)⟩
theorem A0.below {b n:Nat}{f:Ow->Int}(h:A0 w b n f)(hb:Below w.heap.size w w'):A0 w' b n f:=h.kept (row:=none) ⟨hb.os,hb.tape,hb.output,hb.size,fun k hk _=>hb.block k hk⟩ (by simp)
theorem fG_:∀ {l:List Ct} {c:Ct},Bu l->c∈l->tot c.o l=c.n
 |[],_,_,h=>by cases h
 |y::r,c,hr,h=>by
  have h1:=(Ye.1 hr).1;simp only[tot];rcases Zn.1 h with rfl | h
  ·rw[a3_,if_pos rfl,cc_ h1];omega
  ·rw[dA_ (h1 c h),fG_ hr.of_cons h];simp
theorem m1_ (h:EB l):∀ c∈AB l,0<=c.n∧c.n<=42000:=fun c hc=>by
 obtain⟨h1,_,h3⟩:=bR_ l;have e:=fG_ h1 hc;rw[h3] at e;have h4:=cy_ (fZ_ l) c.o;have h5:=fF_ (l:=l) (fun v hv=>⟨(h.2 v hv).1,fun x hx=>((h.2 v hv).2 x hx).1⟩);have h6:=h.1;omega
theorem qe_ {l:List Ct}{M:Int}(h:∀ c∈l,0<=c.n∧c.n<=M)(hr:Bu l)(o:Ow):0<=tot o l∧(tot o l<=M∨tot o l=0):=by
 by_cases hc:∃ c∈l,c.o=o
 ·obtain⟨c,hm,rfl⟩:=hc;rw[fG_ hr hm];exact⟨(h c hm).1,.inl (h c hm).2⟩
 ·rw[bB_ (fun c hm e=>hc ⟨c,hm,e⟩)];exact⟨YB _,.inr rfl⟩
theorem hd_ (h:WfV l):WfC (AB l):=fun c hc=>by
 rcases eI_ hc with⟨d,hd,_⟩ | ⟨d,hd,e⟩
 ·cases hd
 ·rw[e];exact hN_ h d hd
theorem qf_ {l:List Ct}(h:WfC l):WfC (Cs l):=fun c hc=>by
 obtain⟨d,hd,rfl⟩:=ZT.1 hc;exact h d hd
theorem m2_ (h:AC p):H1 p:=by
 obtain⟨z1,z2,z3,z4,z5,z6,z7,z8⟩:=h;exact⟨z1,z3,z5,z7,fun v hv=>⟨(z4 v hv).2.1,fun y hy=>((z4 v hv).2.2 y hy).2⟩⟩
theorem mq_ (ep:Addr)(B0:Nat)(v:Value)(p:Po)(o:Opr)(w:World)(h:AG B0 w v p)(hd:AC p)(hp:Ai p=true)(ho:opB o=false)(hso:BC o)(hep:BD w 1 ep):
  Calls prog 57 #[v,.agg #[.int .i64 o.k,.string o.vol,.string o.file,.string o.to,.string o.into,.int .i64 o.at',.int .i64 o.fr,.int .i64 o.ln,.string o.data]] w fun e w'=>e=.returned (.tuple #[Eu,BL 2 ep])∧Below w.heap.size w w':=by
 have hk:=h;obtain⟨ea,en,ec,va,vn,vc,ra,rn,rc,la,ln,lc,rfl,_⟩:=h;go_enter func57,ntmps57
 go_wp2_with fail
 refine (ch_ B0 _ p _ (hk.below (by go_grown)) hd).mono ?_;rintro e w1 ⟨rfl,hg⟩;obtain⟨C,O,D,ha,hm⟩:=bx3 hg;clear hg;rw[hp];have o0:=O.cell 0;have o1:=O.cell 1;have o2:=O.cell 2;have o3:=O.cell 3;have o4:=O.cell 4;have o5:=O.cell 5;have o6:=O.cell 6;have o7:=O.cell 7;have o8:=O.cell 8;simp only[lgA,lgB,lgC] at o0 o1 o2 o3 o4 o5 o6 o7 o8
 go_wp2_with fail
 refine (iO_ o _ hso).mono ?_;rintro e w2 ⟨rfl,hb⟩;replace D:=D.below hb;have hq:=hep.below (Aa ha hb);have hc:=Aa ha hb;rw[ho];have he:w2.drew.cell? ⟨1,0,none⟩=some (.iface 348 (.pointer (some ep))):=hq;have DD:Blk w2.drew (w.heap.size+2) #[.int .i64 0,.int .i64 0,.slice none 0 0,.slice none 0 0,.slice none 0 0,.slice none 0 0] 35:=D;have BB:Below w.heap.size w w2.drew:=hc.drew
 go_wp2_with fail
 have hl:(fun u:World=>u.cell? ⟨1,0,none⟩=some (.iface 348 (.pointer (some ep)))) w2.drew:=he;refine aC_ (S:=(fun u:World=>u.cell? ⟨1,0,none⟩=some (.iface 348 (.pointer (some ep))))) 6 (by kernel_rfl) rfl ?_;generalize w2.drew=wd at DD BB he hl ⊢;obtain⟨x0,x1,x2,x3,x4,x5⟩:=DD.six';obtain⟨f0,f1,f2,f3,f4,f5⟩:=fz6 DD;refine tk 0 ?_;refine tk 1 ?_;refine tk 2 ?_;refine tk 3 ?_;refine AX (i:=4) (by kernel_rfl) rfl (fun K hK=>?_);go_simp;obtain⟨W8,hh,W0,hj⟩:=AV DD (.int .i64 0) (.int .i64 0) (.slice none 0 0) (.slice none 0 0) (.slice none 0 0) (.slice none 0 0);rw[<-hh];clear hh;have hf:=hj.cell he (by simp only[ne_eq,Zo];omega);refine hK.out _ _ hf (fun hHeld=>?_);clear hK K
 try simp only[Act.put,lsA,lsB,lsC]
 refine tk 5 ?_;refine wpAnyH_done (by kernel_rfl) ?_ _;go_wp2;refine YW (ad_ rfl _ W8 (w.heap.size+2) _ _ _ _ _ rfl W0 underlying35 rfl (by kernel_rfl) rfl) rfl ?_;exact⟨rfl,BB.grown hj BB.size (fun j e=>by cases e;omega)⟩
end Go.Proofs.YtahenegmbmnmjaaGreatDoor
