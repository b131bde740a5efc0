/- Ground. -/
import Derived.Test.YtahenegmbmnmjaaGreatDoorU29
set_option maxHeartbeats 20000000
set_option maxRecDepth 100000
namespace Go.Proofs.YtahenegmbmnmjaaGreatDoor
open Go Go.RowKit Go.BigFrame Tryz
variable{k size:Nat}{o:Oper}{p:Po}{w w':World}
theorem bu_ (B0:Nat)(hB0:0<B0)(v:Value)(p:Po)(o:Opr)(w:World)(h:AG B0 w v p)(hd:AC p)(hp:Ai p=true)(hso:BC o)(hf:opB o=true)(hk:o.k=1∨o.k=4∨o.k=6∨o.k=7∨o.k=8)(hno:(Az p o).1≠0):
  Calls prog 53 #[v,.agg #[.int .i64 o.k,.string o.vol,.string o.file,.string o.to,.string o.into,.int .i64 o.at',.int .i64 o.fr,.int .i64 o.ln,.string o.data]] w fun e w'=>(∃ v' c,e=.returned (.tuple #[v',.int .i64 c])∧c=(opS p o).1∧Am w.heap.size w' v' (opS p o).2∧AC (opS p o).2)∧Below w.heap.size w w':=by
 have _:=hB0;have _:=hp;have hv:=h;obtain⟨ea,en,ec,va,vn,vc,ra,rn,rc,la,ln,lc,rfl,⟨h1,k1⟩,⟨h2,k2⟩,⟨h3,k3⟩,h4,k4⟩:=h;have nk9:¬ o.k=9:=by omega
 have mk9:(o.k==9)=false:=by simpa using nk9
 have nk2:¬ o.k=2:=by omega
 have mk2:(o.k==2)=false:=by simpa using nk2
 have nk3:¬ o.k=3:=by omega
 have mk3:(o.k==3)=false:=by simpa using nk3
 have nk5:¬ o.k=5:=by omega
 have mk5:(o.k==5)=false:=by simpa using nk5
 have nk10:¬ o.k=10:=by omega
 have mk10:(o.k==10)=false:=by simpa using nk10
 obtain⟨_,hz,hL,hF,hE⟩:=aQ_ hp;have hS:Hid (opS p o=((Az p o).1,p)):=by show _=_;simp[opS,BT,hf,nk9,nk2,nk3,nk5,nk10,hno]
 generalize opS p o=R at *;have hy:Hid (o.k=1∨o.k=4∨o.k=6∨o.k=7∨o.k=8):=hk;have hD:Hid (opB o=true):=hf;clear hk;go_enter func53,ntmps53
 go_wp2_with fail
 refine (cs_ o _ hso).mono ?_;rintro e w1 ⟨rfl,ht⟩;obtain⟨C,O,D,hh,hG⟩:=bx3 ht;clear ht;rw[hf];obtain⟨x0,x1,x2,x3,x4,x5⟩:=D.six';obtain⟨f0,f1,f2,f3,f4,f5⟩:=fz6 D;obtain⟨c0,c1,c2,c3,c4,c5⟩:=C.six';have o0:w1.cell? ⟨w.heap.size+1,0,none⟩=some (.int .i64 o.k):=by exact O.cell 0
 go_wp2_with fail
 refine (aW_ B0 hB0 _ p _ (hv.below hh) hd).mono ?_;rintro e wk ⟨⟨v',rfl,PT,hB⟩,ha⟩;have hq:=PT;obtain⟨ea',en',ec',va',vn',vc',ra',rn',rc',la',ln',lc',rows',rfl,_⟩:=PT;have hb:=Aa hh ha;have hA:=ha.size;have hg:Below wk.heap.size wk (wk.alloc (.cells #[.int .i64 p.size,.int .i64 p.next,.slice ea' en' ec',.slice va' vn' vc',.slice ra' rn' rc',.slice la' ln' lc'] 35)):=(Yg _ _).alloc (Zd _) _;have XB:=Blk.new wk #[.int .i64 p.size,.int .i64 p.next,.slice ea' en' ec',.slice va' vn' vc',.slice ra' rn' rc',.slice la' ln' lc'] 35;have hJ:(wk.alloc (.cells #[.int .i64 p.size,.int .i64 p.next,.slice ea' en' ec',.slice va' vn' vc',.slice ra' rn' rc',.slice la' ln' lc'] 35)).heap.size=wk.heap.size+1:=by simp
 have PX:=hq.below hg;have hr:=Aa hb hg;have CX:=(C.below ha).below hg;have DX:=(D.below ha).below hg;have OX:=(O.below ha).below hg;have ox0:(wk.alloc (.cells #[.int .i64 p.size,.int .i64 p.next,.slice ea' en' ec',.slice va' vn' vc',.slice ra' rn' rc',.slice la' ln' lc'] 35)).cell? ⟨w.heap.size+1,0,none⟩=some (.int .i64 o.k):=by exact OX.cell 0
 clear x0 x1 x2 x3 x4 x5 f0 f1 f2 f3 f4 f5 c0 c1 c2 c3 c4 c5 o0 C D O;obtain⟨y0,y1,y2,y3,y4,y5⟩:=XB.six';have p1:=OX.cell 1;have p2:=OX.cell 2;have p3:=OX.cell 3;have p4:=OX.cell 4;have p5:=OX.cell 5;have p6:=OX.cell 6;have p7:=OX.cell 7;have p8:=OX.cell 8;simp only[lgA,lgB,lgC] at p1 p2 p3 p4 p5 p6 p7 p8
 go_wp2_with fail
 generalize wk.alloc (.cells #[.int .i64 p.size,.int .i64 p.next,.slice ea' en' ec',.slice va' vn' vc',.slice ra' rn' rc',.slice la' ln' lc'] 35)=wX at *;have hm:=fk_ w1.heap.size (by omega) _ p o wX PX (by omega) hd hz hy.out;refine hm.mono ?_;rintro e w5 ⟨⟨v2,c,rfl,⟨s2,n2,e2a,e2n,e2c,v2a,v2n,v2c,r2a,r2n,r2c,l2a,l2n,l2c,rfl⟩,hc,hs⟩,hu,ho⟩;have X5:=ho _ _ _ XB (by decide);have C5:=ho _ _ _ CX (by decide);have D5:=ho _ _ _ DX (by decide);have O5:=ho _ _ _ OX (by decide);have hj:Below w.heap.size w w5:=chainB hr hu (by omega);have hH:=hu.size;clear y0 y1 y2 y3 y4 y5 p1 p2 p3 p4 p5 p6 p7 p8 ox0;obtain⟨x0,x1,x2,x3,x4,x5⟩:=X5.six';obtain⟨f0,f1,f2,f3,f4,f5⟩:=fz6 X5;have hC:¬ c=0:=by rw[hc];exact hno
 have hx:Hid (c=(Az p o).1):=hc;clear hc;clear hs;obtain⟨c0,c1,c2,c3,c4,c5⟩:=C5.six';have n1:¬ w.heap.size=wk.heap.size:=by omega
 have n3:¬ wk.heap.size=w.heap.size:=by omega
 go_wp2_with fail
 obtain⟨w6,hl,X6,hn⟩:=AV X5 (.int .i64 s2) (.int .i64 n2) (.slice e2a e2n e2c) (.slice v2a v2n v2c) (.slice r2a r2n r2c) (.slice l2a l2n l2c);have C6:Blk _ w.heap.size _ _:=(hn.block _ C5.lt (by simp only[ne_eq,Zo];omega)).trans C5;have D6:Blk _ (w.heap.size+2) _ _:=(hn.block _ D5.lt (by simp only[ne_eq,Zo];omega)).trans D5;have he:=hj.grown hn hj.size (fun j e=>by cases e;omega);have hI:=hn.size;rw[<-hl];clear hl;clear x0 x1 x2 x3 x4 x5 f0 f1 f2 f3 f4 f5 X5 C5 D5 O5 hn c0 c1 c2 c3 c4 c5;obtain⟨c0,c1,c2,c3,c4,c5⟩:=C6.six';obtain⟨x0,x1,x2,x3,x4,x5⟩:=D6.six';obtain⟨f0,f1,f2,f3,f4,f5⟩:=fz6 D6
 go_wp2_with fail
 refine (aW_ B0 hB0 _ p _ (hv.below he) hd).mono ?_;rintro e wk ⟨⟨v',rfl,PT,_⟩,ha⟩;have hq:=PT;obtain⟨ea',en',ec',va',vn',vc',ra',rn',rc',la',ln',lc',rows',rfl,_⟩:=PT;have Dk:=D6.below ha;have hb:=Aa he ha;have hA:=ha.size;have hK:=he.size;clear x0 x1 x2 x3 x4 x5 f0 f1 f2 f3 f4 f5;obtain⟨x0,x1,x2,x3,x4,x5⟩:=Dk.six';obtain⟨f0,f1,f2,f3,f4,f5⟩:=fz6 Dk;go_wp2;obtain⟨W8,hl,W0,hw⟩:=AV Dk (.int .i64 p.size) (.int .i64 p.next) (.slice ea' en' ec') (.slice va' vn' vc') (.slice ra' rn' rc') (.slice la' ln' lc');have PF:=(hq.tyP hw (aa_ Dk)).mono (show w.heap.size<=w6.heap.size by omega);have B8:=hb.grown hw hb.size (fun j e=>by cases e;omega);rw[<-hl];clear hl;refine YW (ad_ rfl _ W8 (w.heap.size+2) _ _ _ _ _ rfl W0 underlying35 rfl (by kernel_rfl) rfl) rfl ?_;exact⟨⟨_,c,rfl,by rw[hS.out];exact hx.out,by rw[hS.out];exact PF,by rw[hS.out];exact hd⟩,B8⟩
end Go.Proofs.YtahenegmbmnmjaaGreatDoor
