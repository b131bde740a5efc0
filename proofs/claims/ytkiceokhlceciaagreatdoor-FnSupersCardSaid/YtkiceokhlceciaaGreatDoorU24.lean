/- OpOk of the model: one Kind. -/
import Derived.Test.YtkiceokhlceciaaGreatDoorU20
import Derived.Test.YtkiceokhlceciaaGreatDoorU22
import Derived.Test.YtkiceokhlceciaaGreatDoorU23
set_option maxHeartbeats 20000000
set_option maxRecDepth 100000
namespace Go.Proofs.YtkiceokhlceciaaGreatDoor
open Go Go.RowKit Go.BigFrame Tryz
variable{α:Type}{K:Act->World->Prop}{x:Ct}{Q:Exit->Act->World->Prop}{l:List Ct}{k m n size:Nat}{o:Oper}{p:Po}{P:Program}{a b w w':World}{cs:α->List Value}
theorem k0_ (vol file tt into:ByteArray)(at' fr ln:Int)(data:ByteArray)(w:World)(hs:Ds ⟨10,vol,file,tt,into,at',fr,ln,data⟩):
  Calls prog 63 #[.agg #[.int .i64 10,.string vol,.string file,.string tt,.string into,.int .i64 at',.int .i64 fr,.int .i64 ln,.string data]] w fun e w'=>e=.returned (.bool (opB ⟨10,vol,file,tt,into,at',fr,ln,data⟩))∧Below w.heap.size w w':=by
 have hv:=hs.vol;have hf:=hs.file;have ht:=hs.to;have hi:=hs.into;have hd:=hs.data;dsimp only at hv hf ht hi hd;clear hs
 have ha:Hid (opB ⟨10,vol,file,tt,into,at',fr,ln,data⟩=(nameB vol&&(nameB file&&((zB tt&&zB into)&&((decide (0<=at')&&decide (at'<=100))&&(fr==0&&((decide (1<=ln)&&decide (ln<=100))&&zB data))))))):=by
  show _=_;simp[opB,inB,ZO,Bool.and_comm,Bool.and_left_comm]
 generalize opB ⟨10,vol,file,tt,into,at',fr,ln,data⟩=R at *;go_enter func63,ntmps63
 go_upto_region 1 with fail
 go_cut [3] (fun s wc=>s=.bool (at'==0&&(fr==0&&(ln==0&&zB data)))∧wc=w.alloc (.cells #[.int .i64 10,.string vol,.string file,.string tt,.string into,.int .i64 at',.int .i64 fr,.int .i64 ln,.string data] 43))
 case first=>
  cases h1:(at'==0)
  case false=>
   go_wp2;go_meet;exact⟨by rw[h1];rfl,rfl⟩
  cases h2:(fr==0)
  case false=>
   go_wp2;go_meet;exact⟨by rw[h1,h2];rfl,rfl⟩
  cases h3:(ln==0)
  case false=>
   go_wp2;go_meet;exact⟨by rw[h1,h2,h3];rfl,rfl⟩
  go_wp2;go_meet;exact⟨by rw[h1,h2,h3];simp[zB],rfl⟩
 case rest=>
  obtain⟨rfl,rfl⟩:=hcut
  go_upto_region 2 with fail
  go_cut [4] (fun s wc=>s=.bool (zB tt&&zB into)∧wc=w.alloc (.cells #[.int .i64 10,.string vol,.string file,.string tt,.string into,.int .i64 at',.int .i64 fr,.int .i64 ln,.string data] 43))
  case first=>
   go_wp2
   all_goals go_meet
   all_goals (refine⟨?_,rfl⟩;simp_all [zB])
  case rest=>
   obtain⟨rfl,rfl⟩:=hcut;generalize hB:(at'==0&&(fr==0&&(ln==0&&zB data)))=B;generalize hT:(zB tt&&zB into)=T at *
   go_wp2_with fail
   refine (ai_ at' 0 100 _).mono ?_;rintro e w1 ⟨rfl,rfl⟩;generalize hC1:(decide (0<=at')&&decide (at'<=100))=C1 at *
   go_wp2_with fail
   refine (ai_ ln 1 100 _).mono ?_;rintro e w1 ⟨rfl,rfl⟩;generalize hC2:(decide (1<=ln)&&decide (ln<=100))=C2 at *
   go_wp2_with fail
   refine (aq_ vol _ hv).mono ?_;rintro e w1 ⟨rfl,rfl⟩
   cases hc:nameB vol
   case false=>
    go_wp2
    all_goals go_returns
    all_goals go_light
    all_goals refine⟨ac_ ?_,by go_grown⟩
    all_goals rw[ha.out]
    all_goals simp_all [zB]
   go_wp2_with fail
   refine (aq_ file _ hf).mono ?_;rintro e w1 ⟨rfl,rfl⟩
   cases hb:nameB file
   case false=>
    go_wp2
    all_goals go_returns
    all_goals go_light
    all_goals refine⟨ac_ ?_,by go_grown⟩
    all_goals rw[ha.out]
    all_goals simp_all [zB]
   go_wp2
   all_goals go_returns
   all_goals go_light
   all_goals refine⟨ac_ ?_,by go_grown⟩
   all_goals rw[ha.out]
   all_goals simp_all [zB]
theorem cs_ (o:Opr)(w:World)(hs:Ds o):
  Calls prog 63 #[.agg #[.int .i64 o.k,.string o.vol,.string o.file,.string o.to,.string o.into,.int .i64 o.at',.int .i64 o.fr,.int .i64 o.ln,.string o.data]] w fun e w'=>e=.returned (.bool (opB o))∧Below w.heap.size w w':=by
 obtain⟨k,vol,file,tt,into,at',fr,ln,data⟩:=o;by_cases hk:1<=k∧k<=10
 ·have ha:k=1∨k=2∨k=3∨k=4∨k=5∨k=6∨k=7∨k=8∨k=9∨k=10:=by omega
  rcases ha with rfl | rfl | rfl | rfl | rfl | rfl | rfl | rfl | rfl | rfl
  ·exact l8_ vol file tt into at' fr ln data w hs
  ·exact l9_ vol file tt into at' fr ln data w hs
  ·exact ma_ vol file tt into at' fr ln data w hs
  ·exact mb_ vol file tt into at' fr ln data w hs
  ·exact mc_ vol file tt into at' fr ln data w hs
  ·exact md_ vol file tt into at' fr ln data w hs
  ·exact me_ vol file tt into at' fr ln data w hs
  ·exact mf_ vol file tt into at' fr ln data w hs
  ·exact mg_ vol file tt into at' fr ln data w hs
  ·exact k0_ vol file tt into at' fr ln data w hs
 ·exact l7_ k vol file tt into at' fr ln data w hk
theorem k1_ (c:Ct):∀ (l:List Ct),(BD l c).length<=l.length+1
 |[]=>by simp[BD]
 |y::r=>by
  have:=k1_ c r
  unfold BD;split
  ·simp only[Zw];omega
  ·split
   ·split
    ·simp only[Zw];omega
    ·simp only[Zw];omega
   ·simp only[Zw];omega
theorem iZ_:∀ (m l:List Ct),(A7 l m).length<=l.length+m.length
 |[],l=>Zd _
 |c::r,l=>by
  have h1:=iZ_ r (BD l c);have h2:=k1_ c l;show (A7 (BD l c) r).length<=_;simp only[Zw];omega
theorem nI_ (hp:Ap p=true)(hd:AJ p):AJ (Fs p):=by
 obtain⟨_,_,_,hr,hl⟩:=aQ_ hp;obtain⟨z1,z2,z3,z4,z5,z6,z7,z8⟩:=hd;have hs:=iZ_ p.lt p.rf;have q1:=(a0_ hr).1;have q2:=(br_ hl).1;refine⟨Zl (Yc _ _) z1,fun e he=>z2 e (YG.1 he).1,z3,z4,?_,g7_ z6 z8,Zg _,fun c hc=>by cases hc⟩;show (A7 p.rf p.lt).length<=_;omega
theorem gz_ (B0:Nat)(hB0:0<B0)(v:Value)(p:Po)(o:Opr)(w:World)(h:AW B0 w v p)(hd:AJ p)(hp:Ap p=true)(hso:Ds o)(hf:opB o=false):
  Calls prog 36 #[v,.agg #[.int .i64 o.k,.string o.vol,.string o.file,.string o.to,.string o.into,.int .i64 o.at',.int .i64 o.fr,.int .i64 o.ln,.string o.data]] w fun e w'=>(∃ v' c,e=.returned (.tuple #[v',.int .i64 c])∧c=(opS p o).1∧Ag w.heap.size w' v' (opS p o).2∧AJ (opS p o).2)∧Below w.heap.size w w':=by
 have _:=hB0;have _:=hp;have hk:=h;obtain⟨ea,en,ec,va,vn,vc,ra,rn,rc,la,ln,lc,rfl,⟨h1,k1⟩,⟨h2,k2⟩,⟨h3,k3⟩,h4,k4⟩:=h;have hS:Hid (opS p o=(2,p)):=by show _=_;simp[opS,hf]
 generalize opS p o=R at *;go_enter func36,ntmps36
 go_wp2_with fail
 refine (cs_ o _ hso).mono ?_;rintro e w1 ⟨rfl,he⟩;obtain⟨C,O,D,ha,hl⟩:=bx3 he;clear he;rw[hf];obtain⟨x0,x1,x2,x3,x4,x5⟩:=D.six';obtain⟨f0,f1,f2,f3,f4,f5⟩:=fz6 D;obtain⟨c0,c1,c2,c3,c4,c5⟩:=C.six'
 go_wp2_with fail
 refine (aW_ B0 hB0 _ p _ (hk.below ha) hd).mono ?_;rintro e wk ⟨⟨v',rfl,PT,_⟩,hc⟩;have hj:=PT;obtain⟨ea',en',ec',va',vn',vc',ra',rn',rc',la',ln',lc',rows',rfl,_⟩:=PT;have Dk:=D.below hc;have hb:=Aa ha hc;have hm:=hc.size;have hn:=ha.size;clear x0 x1 x2 x3 x4 x5 f0 f1 f2 f3 f4 f5;obtain⟨x0,x1,x2,x3,x4,x5⟩:=Dk.six';obtain⟨f0,f1,f2,f3,f4,f5⟩:=fz6 Dk;go_wp2;obtain⟨W8,hg,W0,hh⟩:=Ba Dk (.int .i64 p.size) (.int .i64 p.next) (.slice ea' en' ec') (.slice va' vn' vc') (.slice ra' rn' rc') (.slice la' ln' lc');have PF:=(hj.tyP hh (aa_ Dk)).mono (show w.heap.size<=w1.heap.size by omega);have B8:=hb.grown hh hb.size (fun j e=>by cases e;omega);rw[<-hg];clear hg;refine YW (ad_ rfl _ W8 (w.heap.size+2) _ _ _ _ _ rfl W0 underlying28 rfl (by kernel_rfl) rfl) rfl ?_;exact⟨⟨_,2,rfl,by rw[hS.out],by rw[hS.out];exact PF,by rw[hS.out];exact hd⟩,B8⟩
theorem f9_ (B0:Nat)(hB0:0<B0)(v:Value)(p:Po)(o:Opr)(w:World)(h:AW B0 w v p)(hd:AJ p)(hp:Ap p=true)(hso:Ds o)(hf:opB o=true)(hk:o.k=9):
  Calls prog 36 #[v,.agg #[.int .i64 o.k,.string o.vol,.string o.file,.string o.to,.string o.into,.int .i64 o.at',.int .i64 o.fr,.int .i64 o.ln,.string o.data]] w fun e w'=>(∃ v' c,e=.returned (.tuple #[v',.int .i64 c])∧c=(opS p o).1∧Ag w.heap.size w' v' (opS p o).2∧AJ (opS p o).2)∧Below w.heap.size w w':=by
 have _:=hB0;have _:=hp;have hr:=h;obtain⟨ea,en,ec,va,vn,vc,ra,rn,rc,la,ln,lc,rfl,⟨h1,k1⟩,⟨h2,k2⟩,⟨h3,k3⟩,h4,k4⟩:=h;have hS:Hid (opS p o=(0,Fs p)):=by show _=_;simp[opS,hf,hk]
 generalize opS p o=R at *;obtain⟨_,_,_,ho,hn⟩:=aQ_ hp;have hs:Hid (o.k=9):=hk;clear hk;go_enter func36,ntmps36
 go_wp2_with fail
 refine (cs_ o _ hso).mono ?_;rintro e w1 ⟨rfl,hj⟩;obtain⟨C,O,D,ha,hu⟩:=bx3 hj;clear hj;rw[hf];obtain⟨x0,x1,x2,x3,x4,x5⟩:=D.six';obtain⟨f0,f1,f2,f3,f4,f5⟩:=fz6 D;obtain⟨c0,c1,c2,c3,c4,c5⟩:=C.six';have o0:w1.cell? ⟨w.heap.size+1,0,none⟩=some (.int .i64 9):=by rw[<-hs.out];exact O.cell 0
 go_wp2_with fail
 refine (aW_ B0 hB0 _ p _ (hr.below ha) hd).mono ?_;rintro e wk ⟨⟨v',rfl,PT,_⟩,hc⟩;have hg:=Aa ha hc;have ht:=hc.size
 go_wp2_with fail
 refine (jD_ w1.heap.size v' p _ PT ht hd.1 (by have:=(a0_ ho).1;omega) (by have:=(br_ hn).1;omega) (fun x hx=>by have:=(a0_ ho).2 x hx;omega) (fun x hx=>by have:=(br_ hn).2 x hx;omega)).mono ?_;rintro e wl ⟨⟨v2,rfl,hh⟩,he⟩;have hq:=hh;obtain⟨ea',en',ec',va',vn',vc',ra',rn',rc',la',ln',lc',rows',rfl,_⟩:=hh;have Dl:=(D.below hc).below he;have hb:=Aa hg he;have hv:=he.size;clear x0 x1 x2 x3 x4 x5 f0 f1 f2 f3 f4 f5;obtain⟨x0,x1,x2,x3,x4,x5⟩:=Dl.six';obtain⟨f0,f1,f2,f3,f4,f5⟩:=fz6 Dl;go_wp2;obtain⟨W8,hl,W0,hm⟩:=Ba Dl (.int .i64 (Fs p).size) (.int .i64 (Fs p).next) (.slice ea' en' ec') (.slice va' vn' vc') (.slice ra' rn' rc') (.slice la' ln' lc');have PF:=(hq.tyP hm (aa_ Dl)).mono (show w.heap.size<=w1.heap.size by omega);have B8:=hb.grown hm hb.size (fun j e=>by cases e;omega);rw[<-hl];clear hl;refine YW (ad_ rfl _ W8 (w.heap.size+2) _ _ _ _ _ rfl W0 underlying28 rfl (by kernel_rfl) rfl) rfl ?_;exact⟨⟨_,0,rfl,by rw[hS.out],by rw[hS.out];exact PF,by rw[hS.out];exact nI_ hp hd⟩,B8⟩
theorem chainB (h:Below n w a)(h':Below m a b)(hn:n<=m):Below n w b:=⟨h'.os.trans h.os,h'.tape.trans h.tape,h'.output.trans h.output,Zl h.size h'.size,fun k hk=>(h'.block k (by omega)).trans (h.block k hk)⟩
theorem bu_ (B0:Nat)(hB0:0<B0)(v:Value)(p:Po)(o:Opr)(w:World)(h:AW B0 w v p)(hd:AJ p)(hp:Ap p=true)(hso:Ds o)(hf:opB o=true)(hk:o.k=1∨o.k=4∨o.k=6∨o.k=7∨o.k=8)(hno:(AC p o).1≠0):
  Calls prog 36 #[v,.agg #[.int .i64 o.k,.string o.vol,.string o.file,.string o.to,.string o.into,.int .i64 o.at',.int .i64 o.fr,.int .i64 o.ln,.string o.data]] w fun e w'=>(∃ v' c,e=.returned (.tuple #[v',.int .i64 c])∧c=(opS p o).1∧Ag w.heap.size w' v' (opS p o).2∧AJ (opS p o).2)∧Below w.heap.size w w':=by
 have _:=hB0;have _:=hp;have hv:=h;obtain⟨ea,en,ec,va,vn,vc,ra,rn,rc,la,ln,lc,rfl,⟨h1,k1⟩,⟨h2,k2⟩,⟨h3,k3⟩,h4,k4⟩:=h;have nk9:¬ o.k=9:=by omega
 have mk9:(o.k==9)=false:=by simpa using nk9
 have nk2:¬ o.k=2:=by omega
 have mk2:(o.k==2)=false:=by simpa using nk2
 have nk3:¬ o.k=3:=by omega
 have mk3:(o.k==3)=false:=by simpa using nk3
 have nk5:¬ o.k=5:=by omega
 have mk5:(o.k==5)=false:=by simpa using nk5
 have nk10:¬ o.k=10:=by omega
 have mk10:(o.k==10)=false:=by simpa using nk10
 obtain⟨_,hz,hL,hF,hE⟩:=aQ_ hp;have hS:Hid (opS p o=((AC p o).1,p)):=by show _=_;simp[opS,Et,hf,nk9,nk2,nk3,nk5,nk10,hno]
 generalize opS p o=R at *;have hy:Hid (o.k=1∨o.k=4∨o.k=6∨o.k=7∨o.k=8):=hk;have hD:Hid (opB o=true):=hf;clear hk;go_enter func36,ntmps36
 go_wp2_with fail
 refine (cs_ o _ hso).mono ?_;rintro e w1 ⟨rfl,ht⟩;obtain⟨C,O,D,hh,hG⟩:=bx3 ht;clear ht;rw[hf];obtain⟨x0,x1,x2,x3,x4,x5⟩:=D.six';obtain⟨f0,f1,f2,f3,f4,f5⟩:=fz6 D;obtain⟨c0,c1,c2,c3,c4,c5⟩:=C.six';have o0:w1.cell? ⟨w.heap.size+1,0,none⟩=some (.int .i64 o.k):=by exact O.cell 0
 go_wp2_with fail
 refine (aW_ B0 hB0 _ p _ (hv.below hh) hd).mono ?_;rintro e wk ⟨⟨v',rfl,PT,hB⟩,ha⟩;have hq:=PT;obtain⟨ea',en',ec',va',vn',vc',ra',rn',rc',la',ln',lc',rows',rfl,_⟩:=PT;have hb:=Aa hh ha;have hA:=ha.size;have hg:Below wk.heap.size wk (wk.alloc (.cells #[.int .i64 p.size,.int .i64 p.next,.slice ea' en' ec',.slice va' vn' vc',.slice ra' rn' rc',.slice la' ln' lc'] 28)):=(Yg _ _).alloc (Zd _) _;have XB:=Blk.new wk #[.int .i64 p.size,.int .i64 p.next,.slice ea' en' ec',.slice va' vn' vc',.slice ra' rn' rc',.slice la' ln' lc'] 28;have hJ:(wk.alloc (.cells #[.int .i64 p.size,.int .i64 p.next,.slice ea' en' ec',.slice va' vn' vc',.slice ra' rn' rc',.slice la' ln' lc'] 28)).heap.size=wk.heap.size+1:=by simp
 have PX:=hq.below hg;have hr:=Aa hb hg;have CX:=(C.below ha).below hg;have DX:=(D.below ha).below hg;have OX:=(O.below ha).below hg;have ox0:(wk.alloc (.cells #[.int .i64 p.size,.int .i64 p.next,.slice ea' en' ec',.slice va' vn' vc',.slice ra' rn' rc',.slice la' ln' lc'] 28)).cell? ⟨w.heap.size+1,0,none⟩=some (.int .i64 o.k):=by exact OX.cell 0
 clear x0 x1 x2 x3 x4 x5 f0 f1 f2 f3 f4 f5 c0 c1 c2 c3 c4 c5 o0 C D O;obtain⟨y0,y1,y2,y3,y4,y5⟩:=XB.six';have p1:=OX.cell 1;have p2:=OX.cell 2;have p3:=OX.cell 3;have p4:=OX.cell 4;have p5:=OX.cell 5;have p6:=OX.cell 6;have p7:=OX.cell 7;have p8:=OX.cell 8;simp only[lgA,lgB,lgC] at p1 p2 p3 p4 p5 p6 p7 p8
 go_wp2_with fail
 generalize wk.alloc (.cells #[.int .i64 p.size,.int .i64 p.next,.slice ea' en' ec',.slice va' vn' vc',.slice ra' rn' rc',.slice la' ln' lc'] 28)=wX at *;have hm:=fk_ w1.heap.size (by omega) _ p o wX PX (by omega) hd hz hy.out;refine hm.mono ?_;rintro e w5 ⟨⟨v2,c,rfl,⟨s2,n2,e2a,e2n,e2c,v2a,v2n,v2c,r2a,r2n,r2c,l2a,l2n,l2c,rfl⟩,hc,hs⟩,hu,ho⟩;have X5:=ho _ _ _ XB (by decide);have C5:=ho _ _ _ CX (by decide);have D5:=ho _ _ _ DX (by decide);have O5:=ho _ _ _ OX (by decide);have hj:Below w.heap.size w w5:=chainB hr hu (by omega);have hH:=hu.size;clear y0 y1 y2 y3 y4 y5 p1 p2 p3 p4 p5 p6 p7 p8 ox0;obtain⟨x0,x1,x2,x3,x4,x5⟩:=X5.six';obtain⟨f0,f1,f2,f3,f4,f5⟩:=fz6 X5;have hC:¬ c=0:=by rw[hc];exact hno
 have hx:Hid (c=(AC p o).1):=hc;clear hc;clear hs;obtain⟨c0,c1,c2,c3,c4,c5⟩:=C5.six';have n1:¬ w.heap.size=wk.heap.size:=by omega
 have n3:¬ wk.heap.size=w.heap.size:=by omega
 go_wp2_with fail
 obtain⟨w6,hl,X6,hn⟩:=Ba X5 (.int .i64 s2) (.int .i64 n2) (.slice e2a e2n e2c) (.slice v2a v2n v2c) (.slice r2a r2n r2c) (.slice l2a l2n l2c);have C6:Blk _ w.heap.size _ _:=(hn.block _ C5.lt (by simp only[ne_eq,Zo];omega)).trans C5;have D6:Blk _ (w.heap.size+2) _ _:=(hn.block _ D5.lt (by simp only[ne_eq,Zo];omega)).trans D5;have he:=hj.grown hn hj.size (fun j e=>by cases e;omega);have hI:=hn.size;rw[<-hl];clear hl;clear x0 x1 x2 x3 x4 x5 f0 f1 f2 f3 f4 f5 X5 C5 D5 O5 hn c0 c1 c2 c3 c4 c5;obtain⟨c0,c1,c2,c3,c4,c5⟩:=C6.six';obtain⟨x0,x1,x2,x3,x4,x5⟩:=D6.six';obtain⟨f0,f1,f2,f3,f4,f5⟩:=fz6 D6
 go_wp2_with fail
 refine (aW_ B0 hB0 _ p _ (hv.below he) hd).mono ?_;rintro e wk ⟨⟨v',rfl,PT,_⟩,ha⟩;have hq:=PT;obtain⟨ea',en',ec',va',vn',vc',ra',rn',rc',la',ln',lc',rows',rfl,_⟩:=PT;have Dk:=D6.below ha;have hb:=Aa he ha;have hA:=ha.size;have hK:=he.size;clear x0 x1 x2 x3 x4 x5 f0 f1 f2 f3 f4 f5;obtain⟨x0,x1,x2,x3,x4,x5⟩:=Dk.six';obtain⟨f0,f1,f2,f3,f4,f5⟩:=fz6 Dk;go_wp2;obtain⟨W8,hl,W0,hw⟩:=Ba Dk (.int .i64 p.size) (.int .i64 p.next) (.slice ea' en' ec') (.slice va' vn' vc') (.slice ra' rn' rc') (.slice la' ln' lc');have PF:=(hq.tyP hw (aa_ Dk)).mono (show w.heap.size<=w6.heap.size by omega);have B8:=hb.grown hw hb.size (fun j e=>by cases e;omega);rw[<-hl];clear hl;refine YW (ad_ rfl _ W8 (w.heap.size+2) _ _ _ _ _ rfl W0 underlying28 rfl (by kernel_rfl) rfl) rfl ?_;exact⟨⟨_,c,rfl,by rw[hS.out];exact hx.out,by rw[hS.out];exact PF,by rw[hS.out];exact hd⟩,B8⟩
theorem bN_ (B0:Nat)(hB0:0<B0)(v:Value)(p:Po)(o:Opr)(w:World)(h:AW B0 w v p)(hd:AJ p)(hp:Ap p=true)(hso:Ds o)(hf:opB o=true)(hB:o.k=2∨o.k=3∨o.k=5∨o.k=10)(hno:(Ak p o).1≠0):
  Calls prog 36 #[v,.agg #[.int .i64 o.k,.string o.vol,.string o.file,.string o.to,.string o.into,.int .i64 o.at',.int .i64 o.fr,.int .i64 o.ln,.string o.data]] w fun e w'=>(∃ v' c,e=.returned (.tuple #[v',.int .i64 c])∧c=(opS p o).1∧Ag w.heap.size w' v' (opS p o).2∧AJ (opS p o).2)∧Below w.heap.size w w':=by
 rcases hB with hk | hk | hk | hk
 all_goals
  have _:=hB0;have _:=hp;have hw:=h;obtain⟨ea,en,ec,va,vn,vc,ra,rn,rc,la,ln,lc,rfl,⟨h1,k1⟩,⟨h2,k2⟩,⟨h3,k3⟩,h4,k4⟩:=h;obtain⟨_,hF,hM,hG,hE⟩:=aQ_ hp;have hS:Hid (opS p o=((Ak p o).1,p)):=by show _=_;simp[opS,Et,hf,hk,hno]
  generalize opS p o=R at *;have hq:Hid (_=_):=hk;have hA:Hid (opB o=true):=hf;clear hk;go_enter func36,ntmps36
  go_wp2_with fail
  refine (cs_ o _ hso).mono ?_;rintro e w1 ⟨rfl,hu⟩;obtain⟨C,O,D,hj,hH⟩:=bx3 hu;clear hu;rw[hf];obtain⟨x0,x1,x2,x3,x4,x5⟩:=D.six';obtain⟨f0,f1,f2,f3,f4,f5⟩:=fz6 D;obtain⟨c0,c1,c2,c3,c4,c5⟩:=C.six';have o0:=O.cell 0;simp only[Yp,Yo,hq.out] at o0
  go_wp2_with fail
  refine (aW_ B0 hB0 _ p _ (hw.below hj) hd).mono ?_;rintro e wk ⟨⟨v',rfl,PT,hy⟩,ha⟩;have hr:=PT;obtain⟨ea',en',ec',va',vn',vc',ra',rn',rc',la',ln',lc',rows',rfl,_⟩:=PT;have hb:=Aa hj ha;have hC:=ha.size;have hh:Below wk.heap.size wk (wk.alloc (.cells #[.int .i64 p.size,.int .i64 p.next,.slice ea' en' ec',.slice va' vn' vc',.slice ra' rn' rc',.slice la' ln' lc'] 28)):=(Yg _ _).alloc (Zd _) _;have XB:=Blk.new wk #[.int .i64 p.size,.int .i64 p.next,.slice ea' en' ec',.slice va' vn' vc',.slice ra' rn' rc',.slice la' ln' lc'] 28;have hK:(wk.alloc (.cells #[.int .i64 p.size,.int .i64 p.next,.slice ea' en' ec',.slice va' vn' vc',.slice ra' rn' rc',.slice la' ln' lc'] 28)).heap.size=wk.heap.size+1:=by simp
  have PX:=hr.below hh;have hs:=Aa hb hh;have CX:=(C.below ha).below hh;have DX:=(D.below ha).below hh;have OX:=(O.below ha).below hh;have ox0:=OX.cell 0;simp only[Yp,Yo,hq.out] at ox0;clear x0 x1 x2 x3 x4 x5 f0 f1 f2 f3 f4 f5 c0 c1 c2 c3 c4 c5 o0 C D O;obtain⟨y0,y1,y2,y3,y4,y5⟩:=XB.six';have p1:=OX.cell 1;have p2:=OX.cell 2;have p3:=OX.cell 3;have p4:=OX.cell 4;have p5:=OX.cell 5;have p6:=OX.cell 6;have p7:=OX.cell 7;have p8:=OX.cell 8;simp only[lgA,lgB,lgC] at p1 p2 p3 p4 p5 p6 p7 p8
  go_wp2_with fail
  generalize wk.alloc (.cells #[.int .i64 p.size,.int .i64 p.next,.slice ea' en' ec',.slice va' vn' vc',.slice ra' rn' rc',.slice la' ln' lc'] 28)=wX at *;have he:=gN_ w1.heap.size (by omega) _ p o wX PX hy (by omega) hd hp hA.out (by rw[hq.out];simp);rw[hq.out] at he;refine he.mono ?_;rintro e w5 ⟨⟨v2,c,rfl,⟨s2,n2,e2a,e2n,e2c,v2a,v2n,v2c,r2a,r2n,r2c,l2a,l2n,l2c,rfl⟩,hc,ht⟩,hv,ho⟩;have X5:=ho _ _ _ XB (by decide);have C5:=ho _ _ _ CX (by decide);have D5:=ho _ _ _ DX (by decide);have O5:=ho _ _ _ OX (by decide);have hl:Below w.heap.size w w5:=chainB hs hv (by omega);have hI:=hv.size;clear y0 y1 y2 y3 y4 y5 p1 p2 p3 p4 p5 p6 p7 p8 ox0;obtain⟨x0,x1,x2,x3,x4,x5⟩:=X5.six';obtain⟨f0,f1,f2,f3,f4,f5⟩:=fz6 X5;have hD:¬ c=0:=by rw[hc];exact hno
  have hz:Hid (c=(Ak p o).1):=hc;clear hc;clear ht;obtain⟨c0,c1,c2,c3,c4,c5⟩:=C5.six';have n1:¬ w.heap.size=wk.heap.size:=by omega
  have n3:¬ wk.heap.size=w.heap.size:=by omega
  go_wp2_with fail
  obtain⟨w6,hm,X6,hn⟩:=Ba X5 (.int .i64 s2) (.int .i64 n2) (.slice e2a e2n e2c) (.slice v2a v2n v2c) (.slice r2a r2n r2c) (.slice l2a l2n l2c);have C6:Blk _ w.heap.size _ _:=(hn.block _ C5.lt (by simp only[ne_eq,Zo];omega)).trans C5;have D6:Blk _ (w.heap.size+2) _ _:=(hn.block _ D5.lt (by simp only[ne_eq,Zo];omega)).trans D5;have hg:=hl.grown hn hl.size (fun j e=>by cases e;omega);have hJ:=hn.size;rw[<-hm];clear hm;clear x0 x1 x2 x3 x4 x5 f0 f1 f2 f3 f4 f5 X5 C5 D5 O5 hn c0 c1 c2 c3 c4 c5;obtain⟨c0,c1,c2,c3,c4,c5⟩:=C6.six';obtain⟨x0,x1,x2,x3,x4,x5⟩:=D6.six';obtain⟨f0,f1,f2,f3,f4,f5⟩:=fz6 D6
  go_wp2_with fail
  refine (aW_ B0 hB0 _ p _ (hw.below hg) hd).mono ?_;rintro e wk ⟨⟨v',rfl,PT,_⟩,ha⟩;have hr:=PT;obtain⟨ea',en',ec',va',vn',vc',ra',rn',rc',la',ln',lc',rows',rfl,_⟩:=PT;have Dk:=D6.below ha;have hb:=Aa hg ha;have hC:=ha.size;have hL:=hg.size;clear x0 x1 x2 x3 x4 x5 f0 f1 f2 f3 f4 f5;obtain⟨x0,x1,x2,x3,x4,x5⟩:=Dk.six';obtain⟨f0,f1,f2,f3,f4,f5⟩:=fz6 Dk;go_wp2;obtain⟨W8,hm,W0,hx⟩:=Ba Dk (.int .i64 p.size) (.int .i64 p.next) (.slice ea' en' ec') (.slice va' vn' vc') (.slice ra' rn' rc') (.slice la' ln' lc');have PF:=(hr.tyP hx (aa_ Dk)).mono (show w.heap.size<=w6.heap.size by omega);have B8:=hb.grown hx hb.size (fun j e=>by cases e;omega);rw[<-hm];clear hm;refine YW (ad_ rfl _ W8 (w.heap.size+2) _ _ _ _ _ rfl W0 underlying28 rfl (by kernel_rfl) rfl) rfl ?_;exact⟨⟨_,c,rfl,by rw[hS.out];exact hz.out,by rw[hS.out];exact PF,by rw[hS.out];exact hd⟩,B8⟩
theorem k2_ (h:Below w.heap.size w w'):w.grownBy w' none:=⟨h.os,h.tape,h.output,h.size,fun k hk _=>h.block k hk⟩
theorem jE_ {a:Act}
  (s x:Operand)(t:TypeId)(ho:o.op=.call {callee:=.builtin .append,args:=#[s,x],argTypes:=#[t,t]})
  (B:Nat)(e:TypeId)(i:TypeInfo)(z:Value)(bytes:Nat)(hi:P.info? e=some i)(hz:i.zero=some z)(hsize:i.size=size)(hby:i.bytes=bytes)(ht:P.underlying t=some (.slice e))(hzs:z.cells.size=size)(hpos:0<size)
  (hsz:∀ y,(cs y).length=size)(hone:∀ (l:List α),∀ u∈l.flatMap cs,u.oneCell'=true)
  (da:Option Addr)(dn dcap:Nat)(ld:List α)(hs:a.eval s=.slice da dn dcap)(hd:Ad cs size e w B da dn dcap ld)
  (sa:Option Addr)(sn scap:Nat)(ls:List α)(hx:a.eval x=.slice sa sn scap)(hsrc:AX cs size w sa sn ls)(hspot:∀ ad,sa=some ad->ad.spot=none)(hnone:sa=none->scap=0)
  (ra:Option Addr)(rn rc:Nat)(lr:List α)(hr:Ad cs size e w B ra rn rc lr)(hap:∀ x y,ra=some x->da=some y->0<rc->0<dcap->x.block≠y.block)
  (tot:Nat)(htot:dn+sn=tot)(h63:tot<=maxLen)(hbytes:tot*bytes<=140737488355328)(hbase:B<=w.heap.size)
  (h:∀ a' cap' w' row,Ad cs size e w' B a' tot cap' (ld++ls)->Ad cs size e w' B ra rn rc lr->w.grownBy w' row->BF w row e->(∀ k,row=some k->B<=k)->(∀ x y,ra=some x->a'=some y->0<rc->0<cap'->x.block≠y.block)->K (a.put o.dst (.slice a' tot cap')) w'):o.wp P a w K Q:=by
 rcases hd.own with⟨rfl,rfl,rfl⟩ | ⟨b,rfl,hm,hu,hq,c,hc,hk,hv⟩
 ·refine mX_ s x t ho B e i z bytes ht hi hz hsize hby hzs hpos hsz hone none 0 0 ld hs hd sa sn scap ls hx hsrc hspot hnone tot htot h63 hbytes hbase (fun a' cap' w' R hg hf=>?_);refine h a' cap' w' none R (hr.off hg (fun ad _=>by simp[Value.ownBlock])) hg hA_ (fun k e=>by cases e) (fun x y hx hy _ _=>?_);rcases hf y hy with⟨_,h0,_⟩ | h1
  ·cases h0
  ·have:=(hr.block x hx).2;omega
 ·by_cases hcap:0<dcap
  ·have hl:∀ ad,ra=some ad->ad.block≠b:=fun ad ha hb=>by
    by_cases hrc:0<rc
    ·exact hap ad _ ha rfl hrc hcap hb
    ·rcases hr.own with⟨h0,_⟩ | ⟨b',h1,_,_,_,c',he,hj,_⟩
     ·rw[h0] at ha;cases ha
     ·rw[h1] at ha;cases ha;simp only at hb;subst hb
      have:c=c':=by
       unfold Blk at hc he;rw[hc] at he;injection he with e1;injection e1
      rw[this,hj] at hk
      have:0<dcap*size:=Nat.mul_pos hcap hpos
      have:rc=0:=by omega
      subst this;omega
   refine mX_ s x t ho B e i z bytes ht hi hz hsize hby hzs hpos hsz hone _ dn dcap ld hs hd sa sn scap ls hx hsrc hspot hnone tot htot h63 hbytes hbase (fun a' cap' w' R hg hf=>?_);refine h a' cap' w' _ R (hr.off hg (fun ad ha=>by simp[Value.ownBlock];exact hl ad ha)) hg hd.rowTy (aG_ fun ad ha=>(hd.block ad ha).1) (fun x y hx hy _ _=>?_);rcases hf y hy with⟨ad,h0,h1⟩ | h1
   ·cases h0
    have:=hl x hx
    simp only at h1;omega
   ·have:=(hr.block x hx).2;omega
  ·obtain rfl:dcap=0:=by omega
   obtain rfl:dn=0:=by omega
   have hp:ld=[]:=Zt hd.sl.len;subst hp;have hn:c=#[]:=Array.eq_empty_of_size_eq_zero (by rw[hk];simp);subst hn;subst htot;rw[Zq] at h63 hbytes;refine eQ_ s x t ho B e i z bytes ht hi hz hsize hby hzs hpos hsz hone b hs hc hm sa sn scap ls hx hsrc hspot hnone h63 hbytes hbase (fun a' cap' w' R hB _ hf=>?_)
   have hh:=h a' cap' w' none (by simpa using R) (hr.below hB) (k2_ hB) hA_ (fun k e=>by cases e) (fun x y hx hy _ hc=>by
    have:=(hr.block x hx).2
    have:=hf hc y hy
    omega)
   rw[Zq] at hh;exact hh
theorem Kt (h:Below n w a)(h':Below m a b)(hn:n<=m):Below n w b:=⟨h'.os.trans h.os,h'.tape.trans h.tape,h'.output.trans h.output,Zl h.size h'.size,fun k hk=>(h'.block k (by omega)).trans (h.block k hk)⟩
def Fz (l:List Ct)(k:Nat):List Ct:=FS (l.take k)++l.drop k
theorem i0_ (l:List Ct):Fz l 0=l:=by simp[Fz,FS]
theorem k3_ (h:l.length=k):Fz l k=FS l:=by
 unfold Fz;rw[Zk (Zm h),Ze (Zm h),Yy]
theorem mY_ (h:l[k]?=some x):(Fz l k)[k]?=some x:=by
 have hk:=(Zb.1 h).1;unfold Fz FS;rw[Zv (by simp;omega)];simp only[List.length_map,Zz,List.getElem?_drop];rw[ZZ (by omega)];simpa using h
theorem k4_ (h:l[k]?=some x):(Fz l k).set k ⟨x.o,-x.n⟩=Fz l (k+1):=by
 have hk:=(Zb.1 h).1;unfold Fz FS;rw[List.set_append_right _ _ (by simp;omega)];rw[ZK,h];simp only[List.length_map,Zz];rw[ZZ (by omega),Nat.sub_self,al_ h];simp
theorem oP_ {a b:Int}(h:∀ x∈l,a<=x.n∧x.n<=b):∀ x∈FS l,-b<=x.n∧x.n<=-a:=fun x hx=>by
 obtain⟨d,hd,rfl⟩:=ZT.1 hx
 have:=h d hd
 simp only;omega
theorem k5_ {q:Po}(hd:AJ p)(hrf:q.rf=p.rf)(hlt:q.lt=p.lt)(hex:q.ex.length<=4194304∧Dt q.ex)(hws:WS q.vs)(hn:(CN p q).lt.length<=4194304):AJ (CN p q):=by
 obtain⟨z1,z2,z3,z4,z5,z6,z7,z8⟩:=hd;refine⟨hex.1,hex.2,?_,hws.2,?_,?_,hn,?_⟩
 ·have:=hws.1.1
  show q.vs.length<=_;omega
 ·show q.rf.length<=_;rw[hrf];exact z5
 ·show Co q.rf;rw[hrf];exact z6
 ·show Co (q.lt++_);intro c hc;rcases Zs.1 hc with hc | hc
  ·rw[hlt] at hc;exact z8 c hc
  ·exact g7_ (f8_ hws.2) (mV_ (f8_ z4)) c hc
theorem nJ_ {o:Opr}(hp:Ap p=true)(hd:AJ p)(hs:o.data.size<=9223372036854775807):(Ak p o).2.rf=p.rf∧(Ak p o).2.lt=p.lt∧((Ak p o).2.ex.length<=4194304∧Dt (Ak p o).2.ex):=by
 have ha:p.ex.length<=60:=(cu_ (aQ_ hp).1).2.2.1
 have hx:(Ai p o).2.1.length<=4194304∧Dt (Ai p o).2.1:=by
  have hb:p.ex.length<=4194304∧Dt p.ex:=⟨hd.1,hd.2.1⟩;unfold Ai;simp only;split
  ·split
   ·exact hb
   ·rename_i l a hpl;obtain⟨_,_,_,f4,_,_,_,f8⟩:=jC_ hpl;refine⟨by show l.length<=_;omega,fun e he=>?_⟩;rcases f8 e he with he | rfl
    ·exact hd.2.1 e he
    ·exact hs
  ·split
   ·split
    ·exact hb
    ·split<;>exact hb
   ·split
    ·exact hb
    ·split
     ·exact hb
     ·split<;>exact hb
 have hb:p.rf=p.rf∧p.lt=p.lt∧(p.ex.length<=4194304∧Dt p.ex):=⟨rfl,rfl,hd.1,hd.2.1⟩;unfold Ak;simp only;split
 ·exact hb
 ·split
  ·exact hb
  ·split
   ·exact hb
   ·split
    ·exact⟨rfl,rfl,hx⟩
    ·exact hb
theorem oQ_ {o:Opr}(hd:AJ p):(AC p o).2.rf=p.rf∧(AC p o).2.lt=p.lt∧((AC p o).2.ex.length<=4194304∧Dt (AC p o).2.ex):=by
 have hb:p.rf=p.rf∧p.lt=p.lt∧(p.ex.length<=4194304∧Dt p.ex):=⟨rfl,rfl,hd.1,hd.2.1⟩;unfold AC;split
 ·split<;>exact hb
 ·split
  ·exact hb
  ·split
   ·exact hb
   ·split
    ·split<;>exact hb
    ·split
     ·exact hb
     ·split
      ·split<;>exact hb
      ·split
       ·split
        ·exact hb
        ·split<;>exact hb
       ·exact hb
end Go.Proofs.YtkiceokhlceciaaGreatDoor
