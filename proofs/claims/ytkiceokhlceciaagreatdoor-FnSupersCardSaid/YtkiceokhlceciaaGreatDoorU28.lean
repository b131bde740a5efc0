/- Ops that are done when they are tried, by the model. -/
import Derived.Test.YtkiceokhlceciaaGreatDoorU25
import Derived.Test.YtkiceokhlceciaaGreatDoorU27
set_option maxHeartbeats 20000000
set_option maxRecDepth 100000
namespace Go.Proofs.YtkiceokhlceciaaGreatDoor
open Go Go.RowKit Go.BigFrame Tryz
variable{B:Nat}{w w':World}
theorem h5_ {o:Opr}(h:opB o=true):o.k=1∨o.k=2∨o.k=3∨o.k=4∨o.k=5∨o.k=6∨o.k=7∨o.k=8∨o.k=9∨o.k=10:=by
 unfold opB at h
 repeat' split at h
 all_goals first | omega | cases h
theorem k6_ (B0:Nat)(hB0:0<B0)(v:Value)(p:Po)(o:Opr)(w:World)(h:AW B0 w v p)(hd:AJ p)(hp:Ap p=true)(hso:Ds o):
  Calls prog 36 #[v,.agg #[.int .i64 o.k,.string o.vol,.string o.file,.string o.to,.string o.into,.int .i64 o.at',.int .i64 o.fr,.int .i64 o.ln,.string o.data]] w fun e w'=>(∃ v' c,e=.returned (.tuple #[v',.int .i64 c])∧c=(opS p o).1∧Ag w.heap.size w' v' (opS p o).2∧AJ (opS p o).2)∧Below w.heap.size w w':=by
 cases hf:opB o with
 |false=>exact gz_ B0 hB0 v p o w h hd hp hso hf
 |true=>
  rcases h5_ hf with hk | hk | hk | hk | hk | hk | hk | hk | hk | hk
  ·by_cases hy:(AC p o).1=0
   ·exact bk_ B0 hB0 v p o w h hd hp hso hf (by omega) hy
   ·exact bu_ B0 hB0 v p o w h hd hp hso hf (by omega) hy
  ·by_cases hy:(Ak p o).1=0
   ·exact bI_ B0 hB0 v p o w h hd hp hso hf (by omega) hy
   ·exact bN_ B0 hB0 v p o w h hd hp hso hf (by omega) hy
  ·by_cases hy:(Ak p o).1=0
   ·exact bI_ B0 hB0 v p o w h hd hp hso hf (by omega) hy
   ·exact bN_ B0 hB0 v p o w h hd hp hso hf (by omega) hy
  ·by_cases hy:(AC p o).1=0
   ·exact bk_ B0 hB0 v p o w h hd hp hso hf (by omega) hy
   ·exact bu_ B0 hB0 v p o w h hd hp hso hf (by omega) hy
  ·by_cases hy:(Ak p o).1=0
   ·exact bI_ B0 hB0 v p o w h hd hp hso hf (by omega) hy
   ·exact bN_ B0 hB0 v p o w h hd hp hso hf (by omega) hy
  ·by_cases hy:(AC p o).1=0
   ·exact bk_ B0 hB0 v p o w h hd hp hso hf (by omega) hy
   ·exact bu_ B0 hB0 v p o w h hd hp hso hf (by omega) hy
  ·by_cases hy:(AC p o).1=0
   ·exact bk_ B0 hB0 v p o w h hd hp hso hf (by omega) hy
   ·exact bu_ B0 hB0 v p o w h hd hp hso hf (by omega) hy
  ·by_cases hy:(AC p o).1=0
   ·exact bk_ B0 hB0 v p o w h hd hp hso hf (by omega) hy
   ·exact bu_ B0 hB0 v p o w h hd hp hso hf (by omega) hy
  ·exact f9_ B0 hB0 v p o w h hd hp hso hf hk
  ·by_cases hy:(Ak p o).1=0
   ·exact bI_ B0 hB0 v p o w h hd hp hso hf (by omega) hy
   ·exact bN_ B0 hB0 v p o w h hd hp hso hf (by omega) hy
theorem mi_ (B:Nat)(w:World):Ag B w (.agg #[.int .i64 0,.int .i64 0,.slice none 0 0,.slice none 0 0,.slice none 0 0,.slice none 0 0]) ⟨0,0,[],[],[],[]⟩:=⟨_,_,_,_,_,_,_,_,_,_,_,_,[],rfl,aB_,⟨aB_,Bc.nil _ _⟩,aB_,aB_,fun x y h=>by cases h⟩
theorem k7_:AJ ⟨0,0,[],[],[],[]⟩:=⟨Zg _,(fun e he=>by cases he),Zg _,(fun e he=>by cases he),Zg _,(fun e he=>by cases he),Zg _,(fun e he=>by cases he)⟩
theorem nK_ (B0:Nat)(hB0:0<B0)(v:Value)(p:Po)(o:Opr)(w:World)(h:AW B0 w v p)(hd:AJ p)(hso:Ds o):
  Calls prog 15 #[v,.agg #[.int .i64 o.k,.string o.vol,.string o.file,.string o.to,.string o.into,.int .i64 o.at',.int .i64 o.fr,.int .i64 o.ln,.string o.data]] w fun e w'=>(∃ v' c,e=.returned (.tuple #[v',.int .i64 c])∧c=(Ej p o).1∧Ag w.heap.size w' v' (Ej p o).2∧AJ (Ej p o).2)∧Below w.heap.size w w':=by
 have hl:=h;obtain⟨ea,en,ec,va,vn,vc,ra,rn,rc,la,ln,lc,rfl,⟨h1,k1⟩,⟨h2,k2⟩,⟨h3,k3⟩,h4,k4⟩:=h;have hS:Hid (Ej p o=if Ap p=true then opS p o else (1,⟨0,0,[],[],[],[]⟩)):=by show _=_;simp[Ej]
 generalize Ej p o=R at *;go_enter func15,ntmps15
 go_wp2_with fail
 refine (ep_ B0 hB0 _ p _ (hl.below (by go_grown)) hd).mono ?_;rintro e w1 ⟨rfl,hk⟩;obtain⟨C,O,D,ha,hn⟩:=bx3 hk;clear hk
 cases hh:Ap p
 ·rw[hh,if_neg (by simp)] at hS;obtain⟨x0,x1,x2,x3,x4,x5⟩:=D.six';obtain⟨f0,f1,f2,f3,f4,f5⟩:=fz6 D;go_wp2;obtain⟨W8,he,W0,hf⟩:=Ba D (.int .i64 0) (.int .i64 0) (.slice none 0 0) (.slice none 0 0) (.slice none 0 0) (.slice none 0 0);have B8:=ha.grown hf ha.size (fun j e=>by cases e;omega);rw[<-he];clear he;refine YW (ad_ rfl _ W8 (w.heap.size+2) _ _ _ _ _ rfl W0 underlying28 rfl (by kernel_rfl) rfl) rfl ?_;exact⟨⟨_,1,rfl,by rw[hS.out],by rw[hS.out];exact mi_ _ _,by rw[hS.out];exact k7_⟩,B8⟩
 ·rw[hh,if_pos rfl] at hS;obtain⟨c0,c1,c2,c3,c4,c5⟩:=C.six';have o0:=O.cell 0;have o1:=O.cell 1;have o2:=O.cell 2;have o3:=O.cell 3;have o4:=O.cell 4;have o5:=O.cell 5;have o6:=O.cell 6;have o7:=O.cell 7;have o8:=O.cell 8;simp only[lgA,lgB,lgC] at o0 o1 o2 o3 o4 o5 o6 o7 o8
  go_wp2_with fail
  refine (k6_ B0 hB0 _ p o _ (hl.below ha) hd hh hso).mono ?_;rintro e wk ⟨⟨v',c,rfl,hc,PT,hm⟩,hg⟩;have hj:=PT;obtain⟨ea',en',ec',va',vn',vc',ra',rn',rc',la',ln',lc',rows',rfl,_⟩:=PT;have Dk:=D.below hg;have hb:=Aa ha hg;have ho:=hg.size;replace hc:Hid (c=(opS p o).1):=hc;obtain⟨q,hq⟩:∃ q,(opS p o).2=q:=⟨_,rfl⟩;rw[hq] at hj hm ⊢;obtain⟨x0,x1,x2,x3,x4,x5⟩:=Dk.six';obtain⟨f0,f1,f2,f3,f4,f5⟩:=fz6 Dk;go_wp2;obtain⟨W8,he,W0,hf⟩:=Ba Dk (.int .i64 q.size) (.int .i64 q.next) (.slice ea' en' ec') (.slice va' vn' vc') (.slice ra' rn' rc') (.slice la' ln' lc');have PF:=(hj.tyP hf (aa_ Dk)).mono (show w.heap.size<=w1.heap.size by omega);have B8:=hb.grown hf hb.size (fun j e=>by cases e;omega);rw[<-he];clear he;refine YW (ad_ rfl _ W8 (w.heap.size+2) _ _ _ _ _ rfl W0 underlying28 rfl (by kernel_rfl) rfl) rfl ?_;exact⟨⟨_,c,rfl,by rw[hS.out];exact hc.out,by rw[hS.out,hq];exact PF,by rw[hS.out,hq];exact hm⟩,B8⟩
end Go.Proofs.YtkiceokhlceciaaGreatDoor
