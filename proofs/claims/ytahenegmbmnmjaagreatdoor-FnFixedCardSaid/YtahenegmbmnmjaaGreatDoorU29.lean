/- Ground. -/
import Derived.Test.YtahenegmbmnmjaaGreatDoorU27
import Derived.Test.YtahenegmbmnmjaaGreatDoorU28
set_option maxHeartbeats 20000000
set_option maxRecDepth 100000
namespace Go.Proofs.YtahenegmbmnmjaaGreatDoor
open Go Go.RowKit Go.BigFrame Tryz
variable{x:Ct}{l:List Ct}{k m n size:Nat}{o:Oper}{p:Po}{a b w w':World}
theorem k0_ (vol file tt into:ByteArray)(at' fr ln:Int)(data:ByteArray)(w:World)(hs:BC ⟨10,vol,file,tt,into,at',fr,ln,data⟩):
  Calls prog 109 #[.agg #[.int .i64 10,.string vol,.string file,.string tt,.string into,.int .i64 at',.int .i64 fr,.int .i64 ln,.string data]] w fun e w'=>e=.returned (.bool (opB ⟨10,vol,file,tt,into,at',fr,ln,data⟩))∧Below w.heap.size w w':=by
 have hv:=hs.vol;have hf:=hs.file;have ht:=hs.to;have hi:=hs.into;have hd:=hs.data;dsimp only at hv hf ht hi hd;clear hs
 have ha:Hid (opB ⟨10,vol,file,tt,into,at',fr,ln,data⟩=(nameB vol&&(nameB file&&((zB tt&&zB into)&&((decide (0<=at')&&decide (at'<=100))&&(fr==0&&((decide (1<=ln)&&decide (ln<=100))&&zB data))))))):=by
  show _=_;simp[opB,inB,ZO,Bool.and_comm,Bool.and_left_comm]
 generalize opB ⟨10,vol,file,tt,into,at',fr,ln,data⟩=R at *;go_enter func109,ntmps109
 go_upto_region 1 with fail
 go_cut [3] (fun s wc=>s=.bool (at'==0&&(fr==0&&(ln==0&&zB data)))∧wc=w.alloc (.cells #[.int .i64 10,.string vol,.string file,.string tt,.string into,.int .i64 at',.int .i64 fr,.int .i64 ln,.string data] 39))
 case first=>
  cases h1:(at'==0)
  case false=>
   go_wp2;go_meet;exact⟨by rw[h1];rfl,rfl⟩
  cases h2:(fr==0)
  case false=>
   go_wp2;go_meet;exact⟨by rw[h1,h2];rfl,rfl⟩
  cases h3:(ln==0)
  case false=>
   go_wp2;go_meet;exact⟨by rw[h1,h2,h3];rfl,rfl⟩
  go_wp2;go_meet;exact⟨by rw[h1,h2,h3];simp[zB],rfl⟩
 case rest=>
  obtain⟨rfl,rfl⟩:=hcut
  go_upto_region 2 with fail
  go_cut [4] (fun s wc=>s=.bool (zB tt&&zB into)∧wc=w.alloc (.cells #[.int .i64 10,.string vol,.string file,.string tt,.string into,.int .i64 at',.int .i64 fr,.int .i64 ln,.string data] 39))
  case first=>
   go_wp2
   all_goals go_meet
   all_goals (refine⟨?_,rfl⟩;simp_all [zB])
  case rest=>
   obtain⟨rfl,rfl⟩:=hcut;generalize hB:(at'==0&&(fr==0&&(ln==0&&zB data)))=B;generalize hT:(zB tt&&zB into)=T at *
   go_wp2_with fail
   refine (ai_ at' 0 100 _).mono ?_;rintro e w1 ⟨rfl,rfl⟩;generalize hC1:(decide (0<=at')&&decide (at'<=100))=C1 at *
   go_wp2_with fail
   refine (ai_ ln 1 100 _).mono ?_;rintro e w1 ⟨rfl,rfl⟩;generalize hC2:(decide (1<=ln)&&decide (ln<=100))=C2 at *
   go_wp2_with fail
   refine (aq_ vol _ hv).mono ?_;rintro e w1 ⟨rfl,rfl⟩
   cases hc:nameB vol
   case false=>
    go_wp2
    all_goals go_returns
    all_goals go_light
    all_goals refine⟨ac_ ?_,by go_grown⟩
    all_goals rw[ha.out]
    all_goals simp_all [zB]
   go_wp2_with fail
   refine (aq_ file _ hf).mono ?_;rintro e w1 ⟨rfl,rfl⟩
   cases hb:nameB file
   case false=>
    go_wp2
    all_goals go_returns
    all_goals go_light
    all_goals refine⟨ac_ ?_,by go_grown⟩
    all_goals rw[ha.out]
    all_goals simp_all [zB]
   go_wp2
   all_goals go_returns
   all_goals go_light
   all_goals refine⟨ac_ ?_,by go_grown⟩
   all_goals rw[ha.out]
   all_goals simp_all [zB]
theorem cs_ (o:Opr)(w:World)(hs:BC o):
  Calls prog 109 #[.agg #[.int .i64 o.k,.string o.vol,.string o.file,.string o.to,.string o.into,.int .i64 o.at',.int .i64 o.fr,.int .i64 o.ln,.string o.data]] w fun e w'=>e=.returned (.bool (opB o))∧Below w.heap.size w w':=by
 obtain⟨k,vol,file,tt,into,at',fr,ln,data⟩:=o;by_cases hk:1<=k∧k<=10
 ·have ha:k=1∨k=2∨k=3∨k=4∨k=5∨k=6∨k=7∨k=8∨k=9∨k=10:=by omega
  rcases ha with rfl | rfl | rfl | rfl | rfl | rfl | rfl | rfl | rfl | rfl
  ·exact l8_ vol file tt into at' fr ln data w hs
  ·exact l9_ vol file tt into at' fr ln data w hs
  ·exact ma_ vol file tt into at' fr ln data w hs
  ·exact mb_ vol file tt into at' fr ln data w hs
  ·exact mc_ vol file tt into at' fr ln data w hs
  ·exact md_ vol file tt into at' fr ln data w hs
  ·exact me_ vol file tt into at' fr ln data w hs
  ·exact mf_ vol file tt into at' fr ln data w hs
  ·exact mg_ vol file tt into at' fr ln data w hs
  ·exact k0_ vol file tt into at' fr ln data w hs
 ·exact l7_ k vol file tt into at' fr ln data w hk
theorem k1_ (c:Ct):∀ (l:List Ct),(Bm l c).length<=l.length+1
 |[]=>by simp[Bm]
 |y::r=>by
  have:=k1_ c r
  unfold Bm;split
  ·simp only[Zw];omega
  ·split
   ·split
    ·simp only[Zw];omega
    ·simp only[Zw];omega
   ·simp only[Zw];omega
theorem iZ_:∀ (m l:List Ct),(AR l m).length<=l.length+m.length
 |[],l=>Zd _
 |c::r,l=>by
  have h1:=iZ_ r (Bm l c);have h2:=k1_ c l;show (AR (Bm l c) r).length<=_;simp only[Zw];omega
theorem nI_ (hp:Ai p=true)(hd:AC p):AC (flushS p):=by
 obtain⟨_,_,_,hr,hl⟩:=aQ_ hp;obtain⟨z1,z2,z3,z4,z5,z6,z7,z8⟩:=hd;have hs:=iZ_ p.lt p.rf;have q1:=(a0_ hr).1;have q2:=(br_ hl).1;refine⟨Zl (Yc _ _) z1,fun e he=>z2 e (YG.1 he).1,z3,z4,?_,g7_ z6 z8,Zg _,fun c hc=>by cases hc⟩;show (AR p.rf p.lt).length<=_;omega
theorem gz_ (B0:Nat)(hB0:0<B0)(v:Value)(p:Po)(o:Opr)(w:World)(h:AG B0 w v p)(hd:AC p)(hp:Ai p=true)(hso:BC o)(hf:opB o=false):
  Calls prog 53 #[v,.agg #[.int .i64 o.k,.string o.vol,.string o.file,.string o.to,.string o.into,.int .i64 o.at',.int .i64 o.fr,.int .i64 o.ln,.string o.data]] w fun e w'=>(∃ v' c,e=.returned (.tuple #[v',.int .i64 c])∧c=(opS p o).1∧Am w.heap.size w' v' (opS p o).2∧AC (opS p o).2)∧Below w.heap.size w w':=by
 have _:=hB0;have _:=hp;have hk:=h;obtain⟨ea,en,ec,va,vn,vc,ra,rn,rc,la,ln,lc,rfl,⟨h1,k1⟩,⟨h2,k2⟩,⟨h3,k3⟩,h4,k4⟩:=h;have hS:Hid (opS p o=(2,p)):=by show _=_;simp[opS,hf]
 generalize opS p o=R at *;go_enter func53,ntmps53
 go_wp2_with fail
 refine (cs_ o _ hso).mono ?_;rintro e w1 ⟨rfl,he⟩;obtain⟨C,O,D,ha,hl⟩:=bx3 he;clear he;rw[hf];obtain⟨x0,x1,x2,x3,x4,x5⟩:=D.six';obtain⟨f0,f1,f2,f3,f4,f5⟩:=fz6 D;obtain⟨c0,c1,c2,c3,c4,c5⟩:=C.six'
 go_wp2_with fail
 refine (aW_ B0 hB0 _ p _ (hk.below ha) hd).mono ?_;rintro e wk ⟨⟨v',rfl,PT,_⟩,hc⟩;have hj:=PT;obtain⟨ea',en',ec',va',vn',vc',ra',rn',rc',la',ln',lc',rows',rfl,_⟩:=PT;have Dk:=D.below hc;have hb:=Aa ha hc;have hm:=hc.size;have hn:=ha.size;clear x0 x1 x2 x3 x4 x5 f0 f1 f2 f3 f4 f5;obtain⟨x0,x1,x2,x3,x4,x5⟩:=Dk.six';obtain⟨f0,f1,f2,f3,f4,f5⟩:=fz6 Dk;go_wp2;obtain⟨W8,hg,W0,hh⟩:=AV Dk (.int .i64 p.size) (.int .i64 p.next) (.slice ea' en' ec') (.slice va' vn' vc') (.slice ra' rn' rc') (.slice la' ln' lc');have PF:=(hj.tyP hh (aa_ Dk)).mono (show w.heap.size<=w1.heap.size by omega);have B8:=hb.grown hh hb.size (fun j e=>by cases e;omega);rw[<-hg];clear hg;refine YW (ad_ rfl _ W8 (w.heap.size+2) _ _ _ _ _ rfl W0 underlying35 rfl (by kernel_rfl) rfl) rfl ?_;exact⟨⟨_,2,rfl,by rw[hS.out],by rw[hS.out];exact PF,by rw[hS.out];exact hd⟩,B8⟩
theorem f9_ (B0:Nat)(hB0:0<B0)(v:Value)(p:Po)(o:Opr)(w:World)(h:AG B0 w v p)(hd:AC p)(hp:Ai p=true)(hso:BC o)(hf:opB o=true)(hk:o.k=9):
  Calls prog 53 #[v,.agg #[.int .i64 o.k,.string o.vol,.string o.file,.string o.to,.string o.into,.int .i64 o.at',.int .i64 o.fr,.int .i64 o.ln,.string o.data]] w fun e w'=>(∃ v' c,e=.returned (.tuple #[v',.int .i64 c])∧c=(opS p o).1∧Am w.heap.size w' v' (opS p o).2∧AC (opS p o).2)∧Below w.heap.size w w':=by
 have _:=hB0;have _:=hp;have hr:=h;obtain⟨ea,en,ec,va,vn,vc,ra,rn,rc,la,ln,lc,rfl,⟨h1,k1⟩,⟨h2,k2⟩,⟨h3,k3⟩,h4,k4⟩:=h;have hS:Hid (opS p o=(0,flushS p)):=by show _=_;simp[opS,hf,hk]
 generalize opS p o=R at *;obtain⟨_,_,_,ho,hn⟩:=aQ_ hp;have hs:Hid (o.k=9):=hk;clear hk;go_enter func53,ntmps53
 go_wp2_with fail
 refine (cs_ o _ hso).mono ?_;rintro e w1 ⟨rfl,hj⟩;obtain⟨C,O,D,ha,hu⟩:=bx3 hj;clear hj;rw[hf];obtain⟨x0,x1,x2,x3,x4,x5⟩:=D.six';obtain⟨f0,f1,f2,f3,f4,f5⟩:=fz6 D;obtain⟨c0,c1,c2,c3,c4,c5⟩:=C.six';have o0:w1.cell? ⟨w.heap.size+1,0,none⟩=some (.int .i64 9):=by rw[<-hs.out];exact O.cell 0
 go_wp2_with fail
 refine (aW_ B0 hB0 _ p _ (hr.below ha) hd).mono ?_;rintro e wk ⟨⟨v',rfl,PT,_⟩,hc⟩;have hg:=Aa ha hc;have ht:=hc.size
 go_wp2_with fail
 refine (jD_ w1.heap.size v' p _ PT ht hd.1 (by have:=(a0_ ho).1;omega) (by have:=(br_ hn).1;omega) (fun x hx=>by have:=(a0_ ho).2 x hx;omega) (fun x hx=>by have:=(br_ hn).2 x hx;omega)).mono ?_;rintro e wl ⟨⟨v2,rfl,hh⟩,he⟩;have hq:=hh;obtain⟨ea',en',ec',va',vn',vc',ra',rn',rc',la',ln',lc',rows',rfl,_⟩:=hh;have Dl:=(D.below hc).below he;have hb:=Aa hg he;have hv:=he.size;clear x0 x1 x2 x3 x4 x5 f0 f1 f2 f3 f4 f5;obtain⟨x0,x1,x2,x3,x4,x5⟩:=Dl.six';obtain⟨f0,f1,f2,f3,f4,f5⟩:=fz6 Dl;go_wp2;obtain⟨W8,hl,W0,hm⟩:=AV Dl (.int .i64 (flushS p).size) (.int .i64 (flushS p).next) (.slice ea' en' ec') (.slice va' vn' vc') (.slice ra' rn' rc') (.slice la' ln' lc');have PF:=(hq.tyP hm (aa_ Dl)).mono (show w.heap.size<=w1.heap.size by omega);have B8:=hb.grown hm hb.size (fun j e=>by cases e;omega);rw[<-hl];clear hl;refine YW (ad_ rfl _ W8 (w.heap.size+2) _ _ _ _ _ rfl W0 underlying35 rfl (by kernel_rfl) rfl) rfl ?_;exact⟨⟨_,0,rfl,by rw[hS.out],by rw[hS.out];exact PF,by rw[hS.out];exact nI_ hp hd⟩,B8⟩
theorem chainB (h:Below n w a)(h':Below m a b)(hn:n<=m):Below n w b:=⟨h'.os.trans h.os,h'.tape.trans h.tape,h'.output.trans h.output,Zl h.size h'.size,fun k hk=>(h'.block k (by omega)).trans (h.block k hk)⟩
end Go.Proofs.YtahenegmbmnmjaaGreatDoor
