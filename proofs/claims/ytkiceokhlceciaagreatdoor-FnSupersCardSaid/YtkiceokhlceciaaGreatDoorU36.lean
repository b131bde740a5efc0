/- Texts of pools, read and written; what is drawn. -/
import Derived.Test.YtkiceokhlceciaaGreatDoorU35
set_option maxHeartbeats 20000000
set_option maxRecDepth 100000
namespace Go.Proofs.YtkiceokhlceciaaGreatDoor
open Go Go.RowKit Go.BigFrame Tryz
theorem JC (B:Nat)(w:World)(h:Rd w B) :
  Calls prog 35 #[.pointer (some ⟨B,0,none⟩)] w fun e w'=>(∃ o:Opr,e=.returned (.agg #[.int .i64 o.k,.string o.vol,.string o.file,.string o.to,.string o.into,.int .i64 o.at',.int .i64 o.fr,.int .i64 o.ln,.string o.data])∧Ds o)∧Rd w' B∧w.grownBy w' (some B):=by
 have hD:=h.lt
 go_enter func35,ntmps35
 go_wp2_with fail
 refine (Av B 3 _ (h.below (by go_grown)) (by omega) (by omega)).mono ?_
 rintro e w1 ⟨⟨x,rfl,hx⟩,ht,hc⟩
 have D1:Blk w1 w.heap.size #[.int .i64 0,.string ⟨#[]⟩,.string ⟨#[]⟩,.string ⟨#[]⟩,.string ⟨#[]⟩,.int .i64 0,.int .i64 0,.int .i64 0,.string ⟨#[]⟩] 43:=((Blk.new w _ _).alloc _).grown hc (by omega)
 have L1:=(Blk.new' (w.alloc (.cells #[.int .i64 0,.string ⟨#[]⟩,.string ⟨#[]⟩,.string ⟨#[]⟩,.string ⟨#[]⟩,.int .i64 0,.int .i64 0,.int .i64 0,.string ⟨#[]⟩] 43)) #[.string ⟨#[117]⟩,.string ⟨#[118]⟩,.string ⟨#[119]⟩] 9 (w.heap.size+1) (by simp)).grown hc (by omega)
 have qb:w.grownBy w1 (some B):=aV_ (au_ (AS w B) (by go_grown)) hc
 obtain⟨vol,h3,hj⟩:=En L1 rfl (fun v hv=>by simp at hv;rcases hv with rfl | rfl | rfl<;>exact⟨_,rfl,by decide⟩) hx
 clear L1 hc
 go_wp2_with fail
 refine (Av B 2 _ (ht.below (by go_grown)) (by omega) (by omega)).mono ?_
 rintro e w2 ⟨⟨y,rfl,hy⟩,qf,hR⟩
 have D2:=(D1.alloc _).grown hR (by omega)
 have L2:=(Blk.new w1 #[.string ⟨#[97]⟩,.string ⟨#[98]⟩] 9).grown hR (by have:=ht.lt;omega)
 have qc:=aV_ (au_ qb (by go_grown)) hR
 obtain⟨file,hQ,hk⟩:=En L2 rfl (fun v hv=>by simp at hv;rcases hv with rfl | rfl<;>exact⟨_,rfl,by decide⟩) hy
 clear L2 hR ht qb D1 h3 hx
 go_wp2_with fail
 refine (Av B 24 _ qf (by omega) (by omega)).mono ?_
 rintro e w3 ⟨⟨at0,rfl,qt⟩,qg,hT⟩
 have D3:=D2.grown hT (by omega)
 have qd:=aV_ qc hT
 clear hT qf qc D2 hQ hy
 go_wp2_with fail
 refine (Av B 16 _ qg (by omega) (by omega)).mono ?_
 rintro e w4 ⟨⟨z,rfl,hz⟩,hE,hU⟩
 have D4:=D3.grown hU (by omega)
 have hF:=aV_ qd hU
 clear hU qg qd D3
 have qu:=hE.lt
 rcases (show z=3∨z=4∨z=0∨z=1∨z=2∨z=5∨z=6∨z=7∨z=8∨z=9∨z=10∨11<=z by omega) with rfl | rfl | rfl | rfl | rfl | rfl | rfl | rfl | rfl | rfl | rfl | qs
 ·go_wp2_with fail
  have qn:(fun _:World=>True) w4.drew:=trivial
  refine ar_ (S:=fun _=>True) 19 (by kernel_rfl) (by kernel_rfl) ?_
  refine tk 0 ?_
  refine tk 1 ?_
  refine tk 2 ?_
  refine tk 4 ?_
  refine tk 8 ?_
  refine tk 13 ?_
  refine tk 17 ?_
  refine kr_ (F:=(fun a0=>a0.tmps.size=103∧a0.eval (.tmp 39)=.string vol∧a0.eval (.tmp 40)=.string file∧a0.eval (.tmp 41)=.pointer (some ⟨B,0,none⟩)∧a0.eval (.tmp 43)=.pointer (some ⟨B,0,none⟩)∧a0.eval (.tmp 47)=.pointer (some ⟨B,0,none⟩)∧a0.eval (.tmp 52)=.pointer (some ⟨B,0,none⟩)∧a0.eval (.tmp 56)=.int .i64 (at0:Int))) (I:=(fun a0 L a u=>∃ (b3 b5 b6 b7 b9 b10 b11 b12 b14 b15 b16 b18:Bool) (x42 x44 x45 x46 x48 x49 x50 x51 x53 x54 x55 x57:Value),L=#[true,true,true,b3,true,b5,b6,b7,true,b9,b10,b11,b12,true,b14,b15,b16,true,b18,true]∧a=Ax a0 x42 x44 x45 x46 x48 x49 x50 x51 x53 x54 x55 x57∧(Rd u B∧w.grownBy u (some B)∧Blk u w.heap.size #[.int .i64 0,.string ⟨#[]⟩,.string ⟨#[]⟩,.string ⟨#[]⟩,.string ⟨#[]⟩,.int .i64 0,.int .i64 0,.int .i64 0,.string ⟨#[]⟩] 43)∧(b3=true->HF 4 x42)∧(b5=true->HF 8 x44)∧(b6=true->MN x45)∧(b7=true->Gx B 3 u x46)∧(b9=true->HF 3 x48)∧(b10=true->Gy B u x49)∧(b11=true->Ln x50)∧(b12=true->Gx B 2 u x51)∧(b14=true->HF 2 x53)∧(b15=true->Gy B u x54)∧(b16=true->Ln x55)∧(b18=true->b3=true∧b6=true∧b11=true∧b16=true∧x57=.agg #[.int .i64 5,.string vol,.string file,x50,x55,.int .i64 (at0:Int),x42,x45,.string ⟨#[]⟩]))) ?fr ?step ?done ?sz ?cnt ?init
  case fr=>exact⟨rfl,rfl,rfl,rfl,rfl,rfl,rfl,rfl⟩
  case sz=>(rintro L a u ⟨b3,b5,b6,b7,b9,b10,b11,b12,b14,b15,b16,b18,x42,x44,x45,x46,x48,x49,x50,x51,x53,x54,x55,x57,rfl,_⟩;rfl)
  case cnt=>exact Zm (by kernel_rfl)
  case init=>exact⟨false,false,false,false,false,false,false,false,false,false,false,false,undef,undef,undef,undef,undef,undef,undef,undef,undef,undef,undef,undef,by kernel_rfl,by kernel_rfl,⟨hE.below ((Yg _ _).drew),au_ hF ((Yg _ _).drew),D4.below ((Yg _ _).drew)⟩,(fun h=>by cases h),(fun h=>by cases h),(fun h=>by cases h),(fun h=>by cases h),(fun h=>by cases h),(fun h=>by cases h),(fun h=>by cases h),(fun h=>by cases h),(fun h=>by cases h),(fun h=>by cases h),(fun h=>by cases h),(fun h=>by cases h)⟩
  case done=>
   rintro L a u ⟨b3,b5,b6,b7,b9,b10,b11,b12,b14,b15,b16,b18,x42,x44,x45,x46,x48,x49,x50,x51,x53,x54,x55,x57,rfl,rfl,⟨hf,hl,ha⟩,t3,t5,t6,t7,t9,t10,t11,t12,t14,t15,t16,t18⟩ hr
   have q3:b3=true:=bX_ (k:=3) hr rfl (fun e he _=>by simp at he;subst he;rfl)
   subst q3
   have q5:b5=true:=bX_ (k:=5) hr rfl (fun e he _=>by simp at he;rcases he with rfl | rfl<;>rfl)
   subst q5
   have q6:b6=true:=bX_ (k:=6) hr rfl (fun e he _=>by simp at he;subst he;rfl)
   subst q6
   have q7:b7=true:=bX_ (k:=7) hr rfl (fun e he _=>by simp at he)
   subst q7
   have q9:b9=true:=bX_ (k:=9) hr rfl (fun e he _=>by simp at he;rcases he with rfl | rfl<;>rfl)
   subst q9
   have h4:b10=true:=bX_ (k:=10) hr rfl (fun e he _=>by simp at he;rcases he with rfl | rfl<;>rfl)
   subst h4
   have h5:b11=true:=bX_ (k:=11) hr rfl (fun e he _=>by simp at he;subst he;rfl)
   subst h5
   have h6:b12=true:=bX_ (k:=12) hr rfl (fun e he _=>by simp at he)
   subst h6
   have h7:b14=true:=bX_ (k:=14) hr rfl (fun e he _=>by simp at he;rcases he with rfl | rfl<;>rfl)
   subst h7
   have h8:b15=true:=bX_ (k:=15) hr rfl (fun e he _=>by simp at he;rcases he with rfl | rfl<;>rfl)
   subst h8
   have h9:b16=true:=bX_ (k:=16) hr rfl (fun e he _=>by simp at he;subst he;rfl)
   subst h9
   have qa:b18=true:=bX_ (k:=18) hr rfl (fun e he _=>by simp at he;rcases he with rfl | rfl | rfl | rfl | rfl | rfl | rfl<;>rfl)
   subst qa
   clear hr
   obtain⟨n42,rfl,_⟩:=t3 rfl
   obtain⟨n45,rfl⟩:=t6 rfl
   obtain⟨tt,rfl,hL⟩:=t11 rfl
   obtain⟨ii,rfl,hZ⟩:=t16 rfl
   obtain⟨_,_,_,_,rfl⟩:=t18 rfl
   clear t3 t5 t6 t7 t9 t10 t11 t12 t14 t15 t16 t18
   refine lastL rfl ?_
   simp only[Ax,Act.put,Yj,Yq,Yr]
   have x0:=ha.cell 0
   have x1:=ha.cell 1
   have x2:=ha.cell 2
   have x3:=ha.cell 3
   have x4:=ha.cell 4
   have x5:=ha.cell 5
   have x6:=ha.cell 6
   have x7:=ha.cell 7
   have x8:=ha.cell 8
   simp only[Yp,Yo,Yt] at x0 x1 x2 x3 x4 x5 x6 x7 x8
   have f0:=ha.frozen 0
   have f1:=ha.frozen 1
   have f2:=ha.frozen 2
   have f3:=ha.frozen 3
   have f4:=ha.frozen 4
   have f5:=ha.frozen 5
   have f6:=ha.frozen 6
   have f7:=ha.frozen 7
   have f8:=ha.frozen 8
   go_wp2
   obtain⟨W0,hh⟩:=Fi ha (.int .i64 5) (.string vol) (.string file) (.string tt) (.string ii) (.int .i64 at0) (.int .i64 n42) (.int .i64 n45) (.string ⟨#[]⟩)
   have hp:=hf.grown hh hD
   have hm:=Ay hl hh (fun k e=>by cases e;exact Zd _)
   generalize (((((((((u.setCell ⟨w.heap.size,0,none⟩ (.int .i64 5)).setCell ⟨w.heap.size,1,none⟩ (.string vol)).setCell ⟨w.heap.size,2,none⟩ (.string file)).setCell ⟨w.heap.size,3,none⟩ (.string tt)).setCell ⟨w.heap.size,4,none⟩ (.string ii)).setCell ⟨w.heap.size,5,none⟩ (.int .i64 at0)).setCell ⟨w.heap.size,6,none⟩ (.int .i64 n42)).setCell ⟨w.heap.size,7,none⟩ (.int .i64 n45)).setCell ⟨w.heap.size,8,none⟩ (.string ⟨#[]⟩))=W8 at *
   refine YW (results_cell_row rfl _ W8 w.heap.size _ _ _ _ rfl W0 underlying43 rfl (by kernel_rfl)) rfl ?_
   exact⟨⟨⟨5,vol,file,tt,ii,at0,n42,n45,⟨#[]⟩⟩,rfl,⟨(Zl hj (by decide)),(Zl hk (by decide)),(Zl hL (by decide)),(Zl hZ (by decide)),Au⟩⟩,hp,hm⟩
  case step=>
   rintro a0 ⟨fsz,f39,f40,f41,f43,f47,f52,f56⟩
   rintro L a u i ⟨b3,b5,b6,b7,b9,b10,b11,b12,b14,b15,b16,b18,x42,x44,x45,x46,x48,x49,x50,x51,x53,x54,x55,x57,rfl,rfl,⟨hf,hl,ha⟩,t3,t5,t6,t7,t9,t10,t11,t12,t14,t15,t16,t18⟩ hi
   obtain⟨h0,o,ho,hg⟩:=mem_ready.1 hi
   have hY:i<20:=(ZG.1 ho).1
   clear hi
   obtain rfl | rfl | rfl | rfl | rfl | rfl | rfl | rfl | rfl | rfl | rfl | rfl | rfl | rfl | rfl | rfl | rfl | rfl | rfl | rfl:i=0∨i=1∨i=2∨i=3∨i=4∨i=5∨i=6∨i=7∨i=8∨i=9∨i=10∨i=11∨i=12∨i=13∨i=14∨i=15∨i=16∨i=17∨i=18∨i=19:=by omega
   ·cases h0
   ·cases h0
   ·cases h0
   ·have hb:b3=false:=h0
    subst hb
    simp only[Yp,Yt,Yo,Zo] at ho
    subst ho
    have hq:=hf.lt
    have e1:=(H9 a0 x42 x44 x45 x46 x48 x49 x50 x51 x53 x54 x55 x57).trans f41
    refine cL_ rfl rfl (fun K hK=>?_)
    generalize hA:Ax a0 x42 x44 x45 x46 x48 x49 x50 x51 x53 x54 x55 x57=A at *
    replace e1:A.tmps[41]?.getD undef=.pointer (some ⟨B,0,none⟩):=by simpa [Act.eval] using e1
    go_simp
    try rw[e1]
    refine (Av B 4 u hf (by omega) (by omega)).mono ?_
    rintro e u1 ⟨⟨n,rfl,hn⟩,ht,hc⟩
    dsimp only
    refine hK.out _ _ ⟨trivial,?_⟩
    rw[<-hA]
    exact⟨true,b5,b6,b7,b9,b10,b11,b12,b14,b15,b16,b18,_,x44,x45,x46,x48,x49,x50,x51,x53,x54,x55,x57,rfl,Jm a0 x42 x44 x45 x46 x48 x49 x50 x51 x53 x54 x55 x57 _,⟨ht,aV_ hl hc,ha.grown hc (by omega)⟩,fun _=>⟨n,rfl,hn⟩,t5,t6,fun h=>(t7 h).grown hc,t9,fun h=>(t10 h).grown hc,t11,fun h=>(t12 h).grown hc,t14,fun h=>(t15 h).grown hc,t16,fun h=>absurd (t18 h).1 (by simp)⟩
   ·cases h0
   ·have hb:b5=false:=h0
    subst hb
    simp only[Yp,Yt,Yo,Zo] at ho
    subst ho
    have hq:=hf.lt
    have e1:=(Ib a0 x42 x44 x45 x46 x48 x49 x50 x51 x53 x54 x55 x57).trans f43
    refine cL_ rfl rfl (fun K hK=>?_)
    generalize hA:Ax a0 x42 x44 x45 x46 x48 x49 x50 x51 x53 x54 x55 x57=A at *
    replace e1:A.tmps[43]?.getD undef=.pointer (some ⟨B,0,none⟩):=by simpa [Act.eval] using e1
    go_simp
    try rw[e1]
    refine (Av B 8 u hf (by omega) (by omega)).mono ?_
    rintro e u1 ⟨⟨n,rfl,hn⟩,ht,hc⟩
    dsimp only
    refine hK.out _ _ ⟨trivial,?_⟩
    rw[<-hA]
    exact⟨b3,true,b6,b7,b9,b10,b11,b12,b14,b15,b16,b18,x42,_,x45,x46,x48,x49,x50,x51,x53,x54,x55,x57,rfl,Jn a0 x42 x44 x45 x46 x48 x49 x50 x51 x53 x54 x55 x57 _,⟨ht,aV_ hl hc,ha.grown hc (by omega)⟩,t3,fun _=>⟨n,rfl,hn⟩,t6,fun h=>(t7 h).grown hc,t9,fun h=>(t10 h).grown hc,t11,fun h=>(t12 h).grown hc,t14,fun h=>(t15 h).grown hc,t16,t18⟩
   ·have hb:b6=false:=h0
    subst hb
    simp only[Yp,Yt,Yo,Zo] at ho
    subst ho
    have hq:=hf.lt
    have d5:b5=true:=hg ⟨5,.data⟩ (by simp) rfl
    obtain⟨n,hx,hn⟩:=t5 d5
    have e1:=(Ic fsz x42 x44 x45 x46 x48 x49 x50 x51 x53 x54 x55 x57).trans hx
    refine cL_ rfl rfl (fun K hK=>?_)
    generalize hA:Ax a0 x42 x44 x45 x46 x48 x49 x50 x51 x53 x54 x55 x57=A at *
    simp only[Oper.wp,execOp,e1]
    go_simp
    refine hK.out _ _ ⟨trivial,?_⟩
    rw[<-hA]
    exact⟨b3,b5,true,b7,b9,b10,b11,b12,b14,b15,b16,b18,x42,x44,_,x46,x48,x49,x50,x51,x53,x54,x55,x57,rfl,Jo a0 x42 x44 x45 x46 x48 x49 x50 x51 x53 x54 x55 x57 _,⟨hf,hl,ha⟩,t3,t5,fun _=>⟨_,rfl⟩,t7,t9,t10,t11,t12,t14,t15,t16,fun h=>absurd (t18 h).2.1 (by simp)⟩
   ·have hb:b7=false:=h0
    subst hb
    simp only[Yp,Yt,Yo,Zo] at ho
    subst ho
    have hq:=hf.lt
    refine cL_ rfl rfl (fun K hK=>?_)
    generalize hA:Ax a0 x42 x44 x45 x46 x48 x49 x50 x51 x53 x54 x55 x57=A at *
    go_simp
    refine hK.out _ _ ⟨trivial,?_⟩
    rw[<-hA]
    exact⟨b3,b5,b6,true,b9,b10,b11,b12,b14,b15,b16,b18,x42,x44,x45,_,x48,x49,x50,x51,x53,x54,x55,x57,rfl,Jp a0 x42 x44 x45 x46 x48 x49 x50 x51 x53 x54 x55 x57 _,⟨hf.below (by go_grown),au_ hl (by go_grown),ha.below (by go_grown)⟩,t3,t5,t6,fun _=>⟨_,_,_,rfl,Blk.new _ _ _,rfl,(fun v hv=>by simp at hv;rcases hv with rfl | rfl | rfl<;>exact⟨_,rfl,by decide⟩),hq⟩,t9,fun h=>(t10 h).below (by go_grown),t11,fun h=>(t12 h).below (by go_grown),t14,fun h=>(t15 h).below (by go_grown),t16,t18⟩
   ·cases h0
   ·have hb:b9=false:=h0
    subst hb
    simp only[Yp,Yt,Yo,Zo] at ho
    subst ho
    have hq:=hf.lt
    have e1:=(If a0 x42 x44 x45 x46 x48 x49 x50 x51 x53 x54 x55 x57).trans f47
    refine cL_ rfl rfl (fun K hK=>?_)
    generalize hA:Ax a0 x42 x44 x45 x46 x48 x49 x50 x51 x53 x54 x55 x57=A at *
    replace e1:A.tmps[47]?.getD undef=.pointer (some ⟨B,0,none⟩):=by simpa [Act.eval] using e1
    go_simp
    try rw[e1]
    refine (Av B 3 u hf (by omega) (by omega)).mono ?_
    rintro e u1 ⟨⟨n,rfl,hn⟩,ht,hc⟩
    dsimp only
    refine hK.out _ _ ⟨trivial,?_⟩
    rw[<-hA]
    exact⟨b3,b5,b6,b7,true,b10,b11,b12,b14,b15,b16,b18,x42,x44,x45,x46,_,x49,x50,x51,x53,x54,x55,x57,rfl,Jq a0 x42 x44 x45 x46 x48 x49 x50 x51 x53 x54 x55 x57 _,⟨ht,aV_ hl hc,ha.grown hc (by omega)⟩,t3,t5,t6,fun h=>(t7 h).grown hc,fun _=>⟨n,rfl,hn⟩,fun h=>(t10 h).grown hc,t11,fun h=>(t12 h).grown hc,t14,fun h=>(t15 h).grown hc,t16,t18⟩
   ·have hb:b10=false:=h0
    subst hb
    simp only[Yp,Yt,Yo,Zo] at ho
    subst ho
    have hq:=hf.lt
    have dl:b7=true:=hg ⟨7,.data⟩ (by simp) rfl
    have dn:b9=true:=hg ⟨9,.data⟩ (by simp) rfl
    obtain⟨lb,cs,lt,hx,hB,hJ,hw,hH⟩:=t7 dl
    obtain⟨n,hy,hn⟩:=t9 dn
    obtain⟨s,hs,hC⟩:=En hB hJ hw hn
    have e1:=(Ie fsz x42 x44 x45 x46 x48 x49 x50 x51 x53 x54 x55 x57).trans hx
    have e2:=(Ig fsz x42 x44 x45 x46 x48 x49 x50 x51 x53 x54 x55 x57).trans hy
    have h1:(0:Int)<=n:=by omega
    have h2:(n:Int)<3:=by omega
    refine cL_ rfl rfl (fun K hK=>?_)
    generalize hA:Ax a0 x42 x44 x45 x46 x48 x49 x50 x51 x53 x54 x55 x57=A at *
    simp only[Oper.wp,execOp,e1,e2]
    go_simp
    refine hK.out _ _ ⟨trivial,?_⟩
    rw[<-hA]
    exact⟨b3,b5,b6,b7,b9,true,b11,b12,b14,b15,b16,b18,x42,x44,x45,x46,x48,_,x50,x51,x53,x54,x55,x57,rfl,Jr a0 x42 x44 x45 x46 x48 x49 x50 x51 x53 x54 x55 x57 _,⟨hf,hl,ha⟩,t3,t5,t6,t7,t9,fun _=>⟨lb,n,s,rfl,hs,hC,hH⟩,t11,t12,t14,t15,t16,t18⟩
   ·have hb:b11=false:=h0
    subst hb
    simp only[Yp,Yt,Yo,Zo] at ho
    subst ho
    have hq:=hf.lt
    have dl:b10=true:=hg ⟨10,.data⟩ (by simp) rfl
    obtain⟨lb,li,s,hx,hs,hC,hH⟩:=t10 dl
    have e1:=(Ih fsz x42 x44 x45 x46 x48 x49 x50 x51 x53 x54 x55 x57).trans hx
    refine cL_ rfl rfl (fun K hK=>?_)
    generalize hA:Ax a0 x42 x44 x45 x46 x48 x49 x50 x51 x53 x54 x55 x57=A at *
    simp only[Oper.wp,execOp,e1]
    go_simp
    refine hK.out _ _ ⟨trivial,?_⟩
    rw[<-hA]
    exact⟨b3,b5,b6,b7,b9,b10,true,b12,b14,b15,b16,b18,x42,x44,x45,x46,x48,x49,_,x51,x53,x54,x55,x57,rfl,Js a0 x42 x44 x45 x46 x48 x49 x50 x51 x53 x54 x55 x57 _,⟨hf,hl,ha⟩,t3,t5,t6,t7,t9,t10,fun _=>⟨s,rfl,hC⟩,t12,t14,t15,t16,fun h=>absurd (t18 h).2.2.1 (by simp)⟩
   ·have hb:b12=false:=h0
    subst hb
    simp only[Yp,Yt,Yo,Zo] at ho
    subst ho
    have hq:=hf.lt
    refine cL_ rfl rfl (fun K hK=>?_)
    generalize hA:Ax a0 x42 x44 x45 x46 x48 x49 x50 x51 x53 x54 x55 x57=A at *
    go_simp
    refine hK.out _ _ ⟨trivial,?_⟩
    rw[<-hA]
    exact⟨b3,b5,b6,b7,b9,b10,b11,true,b14,b15,b16,b18,x42,x44,x45,x46,x48,x49,x50,_,x53,x54,x55,x57,rfl,Jt a0 x42 x44 x45 x46 x48 x49 x50 x51 x53 x54 x55 x57 _,⟨hf.below (by go_grown),au_ hl (by go_grown),ha.below (by go_grown)⟩,t3,t5,t6,fun h=>(t7 h).below (by go_grown),t9,fun h=>(t10 h).below (by go_grown),t11,fun _=>⟨_,_,_,rfl,Blk.new _ _ _,rfl,(fun v hv=>by simp at hv;rcases hv with rfl | rfl<;>exact⟨_,rfl,by decide⟩),hq⟩,t14,fun h=>(t15 h).below (by go_grown),t16,t18⟩
   ·cases h0
   ·have hb:b14=false:=h0
    subst hb
    simp only[Yp,Yt,Yo,Zo] at ho
    subst ho
    have hq:=hf.lt
    have e1:=(Ik a0 x42 x44 x45 x46 x48 x49 x50 x51 x53 x54 x55 x57).trans f52
    refine cL_ rfl rfl (fun K hK=>?_)
    generalize hA:Ax a0 x42 x44 x45 x46 x48 x49 x50 x51 x53 x54 x55 x57=A at *
    replace e1:A.tmps[52]?.getD undef=.pointer (some ⟨B,0,none⟩):=by simpa [Act.eval] using e1
    go_simp
    try rw[e1]
    refine (Av B 2 u hf (by omega) (by omega)).mono ?_
    rintro e u1 ⟨⟨n,rfl,hn⟩,ht,hc⟩
    dsimp only
    refine hK.out _ _ ⟨trivial,?_⟩
    rw[<-hA]
    exact⟨b3,b5,b6,b7,b9,b10,b11,b12,true,b15,b16,b18,x42,x44,x45,x46,x48,x49,x50,x51,_,x54,x55,x57,rfl,Ju a0 x42 x44 x45 x46 x48 x49 x50 x51 x53 x54 x55 x57 _,⟨ht,aV_ hl hc,ha.grown hc (by omega)⟩,t3,t5,t6,fun h=>(t7 h).grown hc,t9,fun h=>(t10 h).grown hc,t11,fun h=>(t12 h).grown hc,fun _=>⟨n,rfl,hn⟩,fun h=>(t15 h).grown hc,t16,t18⟩
   ·have hb:b15=false:=h0
    subst hb
    simp only[Yp,Yt,Yo,Zo] at ho
    subst ho
    have hq:=hf.lt
    have dl:b12=true:=hg ⟨12,.data⟩ (by simp) rfl
    have dn:b14=true:=hg ⟨14,.data⟩ (by simp) rfl
    obtain⟨lb,cs,lt,hx,hB,hJ,hw,hH⟩:=t12 dl
    obtain⟨n,hy,hn⟩:=t14 dn
    obtain⟨s,hs,hC⟩:=En hB hJ hw hn
    have e1:=(Ij fsz x42 x44 x45 x46 x48 x49 x50 x51 x53 x54 x55 x57).trans hx
    have e2:=(Il fsz x42 x44 x45 x46 x48 x49 x50 x51 x53 x54 x55 x57).trans hy
    have h1:(0:Int)<=n:=by omega
    have h2:(n:Int)<2:=by omega
    refine cL_ rfl rfl (fun K hK=>?_)
    generalize hA:Ax a0 x42 x44 x45 x46 x48 x49 x50 x51 x53 x54 x55 x57=A at *
    simp only[Oper.wp,execOp,e1,e2]
    go_simp
    refine hK.out _ _ ⟨trivial,?_⟩
    rw[<-hA]
    exact⟨b3,b5,b6,b7,b9,b10,b11,b12,b14,true,b16,b18,x42,x44,x45,x46,x48,x49,x50,x51,x53,_,x55,x57,rfl,Jv a0 x42 x44 x45 x46 x48 x49 x50 x51 x53 x54 x55 x57 _,⟨hf,hl,ha⟩,t3,t5,t6,t7,t9,t10,t11,t12,t14,fun _=>⟨lb,n,s,rfl,hs,hC,hH⟩,t16,t18⟩
   ·have hb:b16=false:=h0
    subst hb
    simp only[Yp,Yt,Yo,Zo] at ho
    subst ho
    have hq:=hf.lt
    have dl:b15=true:=hg ⟨15,.data⟩ (by simp) rfl
    obtain⟨lb,li,s,hx,hs,hC,hH⟩:=t15 dl
    have e1:=(Im fsz x42 x44 x45 x46 x48 x49 x50 x51 x53 x54 x55 x57).trans hx
    refine cL_ rfl rfl (fun K hK=>?_)
    generalize hA:Ax a0 x42 x44 x45 x46 x48 x49 x50 x51 x53 x54 x55 x57=A at *
    simp only[Oper.wp,execOp,e1]
    go_simp
    refine hK.out _ _ ⟨trivial,?_⟩
    rw[<-hA]
    exact⟨b3,b5,b6,b7,b9,b10,b11,b12,b14,b15,true,b18,x42,x44,x45,x46,x48,x49,x50,x51,x53,x54,_,x57,rfl,Jw a0 x42 x44 x45 x46 x48 x49 x50 x51 x53 x54 x55 x57 _,⟨hf,hl,ha⟩,t3,t5,t6,t7,t9,t10,t11,t12,t14,t15,fun _=>⟨s,rfl,hC⟩,fun h=>absurd (t18 h).2.2.2.1 (by simp)⟩
   ·cases h0
   ·have hb:b18=false:=h0
    subst hb
    simp only[Yp,Yt,Yo,Zo] at ho
    subst ho
    have hq:=hf.lt
    have d3:b3=true:=hg ⟨3,.data⟩ (by simp) rfl
    have d6:b6=true:=hg ⟨6,.data⟩ (by simp) rfl
    have d11:b11=true:=hg ⟨11,.data⟩ (by simp) rfl
    have d16:b16=true:=hg ⟨16,.data⟩ (by simp) rfl
    obtain⟨n42,hM,_⟩:=t3 d3
    obtain⟨n45,hN⟩:=t6 d6
    obtain⟨s50,hO,_⟩:=t11 d11
    obtain⟨s55,hP,_⟩:=t16 d16
    have e39:=(H7 a0 x42 x44 x45 x46 x48 x49 x50 x51 x53 x54 x55 x57).trans f39
    have e40:=(H8 a0 x42 x44 x45 x46 x48 x49 x50 x51 x53 x54 x55 x57).trans f40
    have e56:=(Io a0 x42 x44 x45 x46 x48 x49 x50 x51 x53 x54 x55 x57).trans f56
    have e42:=(Ia fsz x42 x44 x45 x46 x48 x49 x50 x51 x53 x54 x55 x57).trans hM
    have e45:=(Id fsz x42 x44 x45 x46 x48 x49 x50 x51 x53 x54 x55 x57).trans hN
    have e50:=(Ii fsz x42 x44 x45 x46 x48 x49 x50 x51 x53 x54 x55 x57).trans hO
    have e55:=(In fsz x42 x44 x45 x46 x48 x49 x50 x51 x53 x54 x55 x57).trans hP
    refine cL_ rfl rfl (fun K hK=>?_)
    generalize hA:Ax a0 x42 x44 x45 x46 x48 x49 x50 x51 x53 x54 x55 x57=A at *
    simp only[Oper.wp,execOp,List.map_toArray,YD,List.map_nil,e39,e40,e56,e42,e45,e50,e55]
    go_simp
    refine hK.out _ _ ⟨trivial,?_⟩
    rw[<-hA]
    exact⟨b3,b5,b6,b7,b9,b10,b11,b12,b14,b15,b16,true,x42,x44,x45,x46,x48,x49,x50,x51,x53,x54,x55,_,rfl,Jx a0 x42 x44 x45 x46 x48 x49 x50 x51 x53 x54 x55 x57 _,⟨hf,hl,ha⟩,t3,t5,t6,t7,t9,t10,t11,t12,t14,t15,t16,fun _=>⟨d3,d6,d11,d16,by rw[hM,hN,hO,hP]⟩⟩
   ·cases h0
 ·go_wp2_with fail
  have qn:(fun _:World=>True) w4.drew:=trivial
  refine ar_ (S:=fun _=>True) 19 (by kernel_rfl) (by kernel_rfl) ?_
  refine tk 0 ?_
  refine tk 1 ?_
  refine tk 2 ?_
  refine tk 4 ?_
  refine tk 8 ?_
  refine tk 13 ?_
  refine tk 17 ?_
  refine kr_ (F:=(fun a0=>a0.tmps.size=103∧a0.eval (.tmp 39)=.string vol∧a0.eval (.tmp 40)=.string file∧a0.eval (.tmp 41)=.pointer (some ⟨B,0,none⟩)∧a0.eval (.tmp 43)=.pointer (some ⟨B,0,none⟩)∧a0.eval (.tmp 47)=.pointer (some ⟨B,0,none⟩)∧a0.eval (.tmp 52)=.pointer (some ⟨B,0,none⟩)∧a0.eval (.tmp 56)=.int .i64 (at0:Int))) (I:=(fun a0 L a u=>∃ (b3 b5 b6 b7 b9 b10 b11 b12 b14 b15 b16 b18:Bool) (x42 x44 x45 x46 x48 x49 x50 x51 x53 x54 x55 x57:Value),L=#[true,true,true,b3,true,b5,b6,b7,true,b9,b10,b11,b12,true,b14,b15,b16,true,b18,true]∧a=Ax a0 x42 x44 x45 x46 x48 x49 x50 x51 x53 x54 x55 x57∧(Rd u B∧w.grownBy u (some B)∧Blk u w.heap.size #[.int .i64 0,.string ⟨#[]⟩,.string ⟨#[]⟩,.string ⟨#[]⟩,.string ⟨#[]⟩,.int .i64 0,.int .i64 0,.int .i64 0,.string ⟨#[]⟩] 43)∧(b3=true->HF 4 x42)∧(b5=true->HF 8 x44)∧(b6=true->MN x45)∧(b7=true->Gx B 3 u x46)∧(b9=true->HF 3 x48)∧(b10=true->Gy B u x49)∧(b11=true->Ln x50)∧(b12=true->Gx B 2 u x51)∧(b14=true->HF 2 x53)∧(b15=true->Gy B u x54)∧(b16=true->Ln x55)∧(b18=true->b3=true∧b6=true∧b11=true∧b16=true∧x57=.agg #[.int .i64 5,.string vol,.string file,x50,x55,.int .i64 (at0:Int),x42,x45,.string ⟨#[]⟩]))) ?fr ?step ?done ?sz ?cnt ?init
  case fr=>exact⟨rfl,rfl,rfl,rfl,rfl,rfl,rfl,rfl⟩
  case sz=>(rintro L a u ⟨b3,b5,b6,b7,b9,b10,b11,b12,b14,b15,b16,b18,x42,x44,x45,x46,x48,x49,x50,x51,x53,x54,x55,x57,rfl,_⟩;rfl)
  case cnt=>exact Zm (by kernel_rfl)
  case init=>exact⟨false,false,false,false,false,false,false,false,false,false,false,false,undef,undef,undef,undef,undef,undef,undef,undef,undef,undef,undef,undef,by kernel_rfl,by kernel_rfl,⟨hE.below ((Yg _ _).drew),au_ hF ((Yg _ _).drew),D4.below ((Yg _ _).drew)⟩,(fun h=>by cases h),(fun h=>by cases h),(fun h=>by cases h),(fun h=>by cases h),(fun h=>by cases h),(fun h=>by cases h),(fun h=>by cases h),(fun h=>by cases h),(fun h=>by cases h),(fun h=>by cases h),(fun h=>by cases h),(fun h=>by cases h)⟩
  case done=>
   rintro L a u ⟨b3,b5,b6,b7,b9,b10,b11,b12,b14,b15,b16,b18,x42,x44,x45,x46,x48,x49,x50,x51,x53,x54,x55,x57,rfl,rfl,⟨hf,hl,ha⟩,t3,t5,t6,t7,t9,t10,t11,t12,t14,t15,t16,t18⟩ hr
   have q3:b3=true:=bX_ (k:=3) hr rfl (fun e he _=>by simp at he;subst he;rfl)
   subst q3
   have q5:b5=true:=bX_ (k:=5) hr rfl (fun e he _=>by simp at he;rcases he with rfl | rfl<;>rfl)
   subst q5
   have q6:b6=true:=bX_ (k:=6) hr rfl (fun e he _=>by simp at he;subst he;rfl)
   subst q6
   have q7:b7=true:=bX_ (k:=7) hr rfl (fun e he _=>by simp at he)
   subst q7
   have q9:b9=true:=bX_ (k:=9) hr rfl (fun e he _=>by simp at he;rcases he with rfl | rfl<;>rfl)
   subst q9
   have h4:b10=true:=bX_ (k:=10) hr rfl (fun e he _=>by simp at he;rcases he with rfl | rfl<;>rfl)
   subst h4
   have h5:b11=true:=bX_ (k:=11) hr rfl (fun e he _=>by simp at he;subst he;rfl)
   subst h5
   have h6:b12=true:=bX_ (k:=12) hr rfl (fun e he _=>by simp at he)
   subst h6
   have h7:b14=true:=bX_ (k:=14) hr rfl (fun e he _=>by simp at he;rcases he with rfl | rfl<;>rfl)
   subst h7
   have h8:b15=true:=bX_ (k:=15) hr rfl (fun e he _=>by simp at he;rcases he with rfl | rfl<;>rfl)
   subst h8
   have h9:b16=true:=bX_ (k:=16) hr rfl (fun e he _=>by simp at he;subst he;rfl)
   subst h9
   have qa:b18=true:=bX_ (k:=18) hr rfl (fun e he _=>by simp at he;rcases he with rfl | rfl | rfl | rfl | rfl | rfl | rfl<;>rfl)
   subst qa
   clear hr
   obtain⟨n42,rfl,_⟩:=t3 rfl
   obtain⟨n45,rfl⟩:=t6 rfl
   obtain⟨tt,rfl,hL⟩:=t11 rfl
   obtain⟨ii,rfl,hZ⟩:=t16 rfl
   obtain⟨_,_,_,_,rfl⟩:=t18 rfl
   clear t3 t5 t6 t7 t9 t10 t11 t12 t14 t15 t16 t18
   refine lastL rfl ?_
   simp only[Ax,Act.put,Yj,Yq,Yr]
   have x0:=ha.cell 0
   have x1:=ha.cell 1
   have x2:=ha.cell 2
   have x3:=ha.cell 3
   have x4:=ha.cell 4
   have x5:=ha.cell 5
   have x6:=ha.cell 6
   have x7:=ha.cell 7
   have x8:=ha.cell 8
   simp only[Yp,Yo,Yt] at x0 x1 x2 x3 x4 x5 x6 x7 x8
   have f0:=ha.frozen 0
   have f1:=ha.frozen 1
   have f2:=ha.frozen 2
   have f3:=ha.frozen 3
   have f4:=ha.frozen 4
   have f5:=ha.frozen 5
   have f6:=ha.frozen 6
   have f7:=ha.frozen 7
   have f8:=ha.frozen 8
   go_wp2
   obtain⟨W0,hh⟩:=Fi ha (.int .i64 5) (.string vol) (.string file) (.string tt) (.string ii) (.int .i64 at0) (.int .i64 n42) (.int .i64 n45) (.string ⟨#[]⟩)
   have hp:=hf.grown hh hD
   have hm:=Ay hl hh (fun k e=>by cases e;exact Zd _)
   generalize (((((((((u.setCell ⟨w.heap.size,0,none⟩ (.int .i64 5)).setCell ⟨w.heap.size,1,none⟩ (.string vol)).setCell ⟨w.heap.size,2,none⟩ (.string file)).setCell ⟨w.heap.size,3,none⟩ (.string tt)).setCell ⟨w.heap.size,4,none⟩ (.string ii)).setCell ⟨w.heap.size,5,none⟩ (.int .i64 at0)).setCell ⟨w.heap.size,6,none⟩ (.int .i64 n42)).setCell ⟨w.heap.size,7,none⟩ (.int .i64 n45)).setCell ⟨w.heap.size,8,none⟩ (.string ⟨#[]⟩))=W8 at *
   refine YW (results_cell_row rfl _ W8 w.heap.size _ _ _ _ rfl W0 underlying43 rfl (by kernel_rfl)) rfl ?_
   exact⟨⟨⟨5,vol,file,tt,ii,at0,n42,n45,⟨#[]⟩⟩,rfl,⟨(Zl hj (by decide)),(Zl hk (by decide)),(Zl hL (by decide)),(Zl hZ (by decide)),Au⟩⟩,hp,hm⟩
  case step=>
   rintro a0 ⟨fsz,f39,f40,f41,f43,f47,f52,f56⟩
   rintro L a u i ⟨b3,b5,b6,b7,b9,b10,b11,b12,b14,b15,b16,b18,x42,x44,x45,x46,x48,x49,x50,x51,x53,x54,x55,x57,rfl,rfl,⟨hf,hl,ha⟩,t3,t5,t6,t7,t9,t10,t11,t12,t14,t15,t16,t18⟩ hi
   obtain⟨h0,o,ho,hg⟩:=mem_ready.1 hi
   have hY:i<20:=(ZG.1 ho).1
   clear hi
   obtain rfl | rfl | rfl | rfl | rfl | rfl | rfl | rfl | rfl | rfl | rfl | rfl | rfl | rfl | rfl | rfl | rfl | rfl | rfl | rfl:i=0∨i=1∨i=2∨i=3∨i=4∨i=5∨i=6∨i=7∨i=8∨i=9∨i=10∨i=11∨i=12∨i=13∨i=14∨i=15∨i=16∨i=17∨i=18∨i=19:=by omega
   ·cases h0
   ·cases h0
   ·cases h0
   ·have hb:b3=false:=h0
    subst hb
    simp only[Yp,Yt,Yo,Zo] at ho
    subst ho
    have hq:=hf.lt
    have e1:=(H9 a0 x42 x44 x45 x46 x48 x49 x50 x51 x53 x54 x55 x57).trans f41
    refine cL_ rfl rfl (fun K hK=>?_)
    generalize hA:Ax a0 x42 x44 x45 x46 x48 x49 x50 x51 x53 x54 x55 x57=A at *
    replace e1:A.tmps[41]?.getD undef=.pointer (some ⟨B,0,none⟩):=by simpa [Act.eval] using e1
    go_simp
    try rw[e1]
    refine (Av B 4 u hf (by omega) (by omega)).mono ?_
    rintro e u1 ⟨⟨n,rfl,hn⟩,ht,hc⟩
    dsimp only
    refine hK.out _ _ ⟨trivial,?_⟩
    rw[<-hA]
    exact⟨true,b5,b6,b7,b9,b10,b11,b12,b14,b15,b16,b18,_,x44,x45,x46,x48,x49,x50,x51,x53,x54,x55,x57,rfl,Jm a0 x42 x44 x45 x46 x48 x49 x50 x51 x53 x54 x55 x57 _,⟨ht,aV_ hl hc,ha.grown hc (by omega)⟩,fun _=>⟨n,rfl,hn⟩,t5,t6,fun h=>(t7 h).grown hc,t9,fun h=>(t10 h).grown hc,t11,fun h=>(t12 h).grown hc,t14,fun h=>(t15 h).grown hc,t16,fun h=>absurd (t18 h).1 (by simp)⟩
   ·cases h0
   ·have hb:b5=false:=h0
    subst hb
    simp only[Yp,Yt,Yo,Zo] at ho
    subst ho
    have hq:=hf.lt
    have e1:=(Ib a0 x42 x44 x45 x46 x48 x49 x50 x51 x53 x54 x55 x57).trans f43
    refine cL_ rfl rfl (fun K hK=>?_)
    generalize hA:Ax a0 x42 x44 x45 x46 x48 x49 x50 x51 x53 x54 x55 x57=A at *
    replace e1:A.tmps[43]?.getD undef=.pointer (some ⟨B,0,none⟩):=by simpa [Act.eval] using e1
    go_simp
    try rw[e1]
    refine (Av B 8 u hf (by omega) (by omega)).mono ?_
    rintro e u1 ⟨⟨n,rfl,hn⟩,ht,hc⟩
    dsimp only
    refine hK.out _ _ ⟨trivial,?_⟩
    rw[<-hA]
    exact⟨b3,true,b6,b7,b9,b10,b11,b12,b14,b15,b16,b18,x42,_,x45,x46,x48,x49,x50,x51,x53,x54,x55,x57,rfl,Jn a0 x42 x44 x45 x46 x48 x49 x50 x51 x53 x54 x55 x57 _,⟨ht,aV_ hl hc,ha.grown hc (by omega)⟩,t3,fun _=>⟨n,rfl,hn⟩,t6,fun h=>(t7 h).grown hc,t9,fun h=>(t10 h).grown hc,t11,fun h=>(t12 h).grown hc,t14,fun h=>(t15 h).grown hc,t16,t18⟩
   ·have hb:b6=false:=h0
    subst hb
    simp only[Yp,Yt,Yo,Zo] at ho
    subst ho
    have hq:=hf.lt
    have d5:b5=true:=hg ⟨5,.data⟩ (by simp) rfl
    obtain⟨n,hx,hn⟩:=t5 d5
    have e1:=(Ic fsz x42 x44 x45 x46 x48 x49 x50 x51 x53 x54 x55 x57).trans hx
    refine cL_ rfl rfl (fun K hK=>?_)
    generalize hA:Ax a0 x42 x44 x45 x46 x48 x49 x50 x51 x53 x54 x55 x57=A at *
    simp only[Oper.wp,execOp,e1]
    go_simp
    refine hK.out _ _ ⟨trivial,?_⟩
    rw[<-hA]
    exact⟨b3,b5,true,b7,b9,b10,b11,b12,b14,b15,b16,b18,x42,x44,_,x46,x48,x49,x50,x51,x53,x54,x55,x57,rfl,Jo a0 x42 x44 x45 x46 x48 x49 x50 x51 x53 x54 x55 x57 _,⟨hf,hl,ha⟩,t3,t5,fun _=>⟨_,rfl⟩,t7,t9,t10,t11,t12,t14,t15,t16,fun h=>absurd (t18 h).2.1 (by simp)⟩
   ·have hb:b7=false:=h0
    subst hb
    simp only[Yp,Yt,Yo,Zo] at ho
    subst ho
    have hq:=hf.lt
    refine cL_ rfl rfl (fun K hK=>?_)
    generalize hA:Ax a0 x42 x44 x45 x46 x48 x49 x50 x51 x53 x54 x55 x57=A at *
    go_simp
    refine hK.out _ _ ⟨trivial,?_⟩
    rw[<-hA]
    exact⟨b3,b5,b6,true,b9,b10,b11,b12,b14,b15,b16,b18,x42,x44,x45,_,x48,x49,x50,x51,x53,x54,x55,x57,rfl,Jp a0 x42 x44 x45 x46 x48 x49 x50 x51 x53 x54 x55 x57 _,⟨hf.below (by go_grown),au_ hl (by go_grown),ha.below (by go_grown)⟩,t3,t5,t6,fun _=>⟨_,_,_,rfl,Blk.new _ _ _,rfl,(fun v hv=>by simp at hv;rcases hv with rfl | rfl | rfl<;>exact⟨_,rfl,by decide⟩),hq⟩,t9,fun h=>(t10 h).below (by go_grown),t11,fun h=>(t12 h).below (by go_grown),t14,fun h=>(t15 h).below (by go_grown),t16,t18⟩
   ·cases h0
   ·have hb:b9=false:=h0
    subst hb
    simp only[Yp,Yt,Yo,Zo] at ho
    subst ho
    have hq:=hf.lt
    have e1:=(If a0 x42 x44 x45 x46 x48 x49 x50 x51 x53 x54 x55 x57).trans f47
    refine cL_ rfl rfl (fun K hK=>?_)
    generalize hA:Ax a0 x42 x44 x45 x46 x48 x49 x50 x51 x53 x54 x55 x57=A at *
    replace e1:A.tmps[47]?.getD undef=.pointer (some ⟨B,0,none⟩):=by simpa [Act.eval] using e1
    go_simp
    try rw[e1]
    refine (Av B 3 u hf (by omega) (by omega)).mono ?_
    rintro e u1 ⟨⟨n,rfl,hn⟩,ht,hc⟩
    dsimp only
    refine hK.out _ _ ⟨trivial,?_⟩
    rw[<-hA]
    exact⟨b3,b5,b6,b7,true,b10,b11,b12,b14,b15,b16,b18,x42,x44,x45,x46,_,x49,x50,x51,x53,x54,x55,x57,rfl,Jq a0 x42 x44 x45 x46 x48 x49 x50 x51 x53 x54 x55 x57 _,⟨ht,aV_ hl hc,ha.grown hc (by omega)⟩,t3,t5,t6,fun h=>(t7 h).grown hc,fun _=>⟨n,rfl,hn⟩,fun h=>(t10 h).grown hc,t11,fun h=>(t12 h).grown hc,t14,fun h=>(t15 h).grown hc,t16,t18⟩
   ·have hb:b10=false:=h0
    subst hb
    simp only[Yp,Yt,Yo,Zo] at ho
    subst ho
    have hq:=hf.lt
    have dl:b7=true:=hg ⟨7,.data⟩ (by simp) rfl
    have dn:b9=true:=hg ⟨9,.data⟩ (by simp) rfl
    obtain⟨lb,cs,lt,hx,hB,hJ,hw,hH⟩:=t7 dl
    obtain⟨n,hy,hn⟩:=t9 dn
    obtain⟨s,hs,hC⟩:=En hB hJ hw hn
    have e1:=(Ie fsz x42 x44 x45 x46 x48 x49 x50 x51 x53 x54 x55 x57).trans hx
    have e2:=(Ig fsz x42 x44 x45 x46 x48 x49 x50 x51 x53 x54 x55 x57).trans hy
    have h1:(0:Int)<=n:=by omega
    have h2:(n:Int)<3:=by omega
    refine cL_ rfl rfl (fun K hK=>?_)
    generalize hA:Ax a0 x42 x44 x45 x46 x48 x49 x50 x51 x53 x54 x55 x57=A at *
    simp only[Oper.wp,execOp,e1,e2]
    go_simp
    refine hK.out _ _ ⟨trivial,?_⟩
    rw[<-hA]
    exact⟨b3,b5,b6,b7,b9,true,b11,b12,b14,b15,b16,b18,x42,x44,x45,x46,x48,_,x50,x51,x53,x54,x55,x57,rfl,Jr a0 x42 x44 x45 x46 x48 x49 x50 x51 x53 x54 x55 x57 _,⟨hf,hl,ha⟩,t3,t5,t6,t7,t9,fun _=>⟨lb,n,s,rfl,hs,hC,hH⟩,t11,t12,t14,t15,t16,t18⟩
   ·have hb:b11=false:=h0
    subst hb
    simp only[Yp,Yt,Yo,Zo] at ho
    subst ho
    have hq:=hf.lt
    have dl:b10=true:=hg ⟨10,.data⟩ (by simp) rfl
    obtain⟨lb,li,s,hx,hs,hC,hH⟩:=t10 dl
    have e1:=(Ih fsz x42 x44 x45 x46 x48 x49 x50 x51 x53 x54 x55 x57).trans hx
    refine cL_ rfl rfl (fun K hK=>?_)
    generalize hA:Ax a0 x42 x44 x45 x46 x48 x49 x50 x51 x53 x54 x55 x57=A at *
    simp only[Oper.wp,execOp,e1]
    go_simp
    refine hK.out _ _ ⟨trivial,?_⟩
    rw[<-hA]
    exact⟨b3,b5,b6,b7,b9,b10,true,b12,b14,b15,b16,b18,x42,x44,x45,x46,x48,x49,_,x51,x53,x54,x55,x57,rfl,Js a0 x42 x44 x45 x46 x48 x49 x50 x51 x53 x54 x55 x57 _,⟨hf,hl,ha⟩,t3,t5,t6,t7,t9,t10,fun _=>⟨s,rfl,hC⟩,t12,t14,t15,t16,fun h=>absurd (t18 h).2.2.1 (by simp)⟩
   ·have hb:b12=false:=h0
    subst hb
    simp only[Yp,Yt,Yo,Zo] at ho
    subst ho
    have hq:=hf.lt
    refine cL_ rfl rfl (fun K hK=>?_)
    generalize hA:Ax a0 x42 x44 x45 x46 x48 x49 x50 x51 x53 x54 x55 x57=A at *
    go_simp
    refine hK.out _ _ ⟨trivial,?_⟩
    rw[<-hA]
    exact⟨b3,b5,b6,b7,b9,b10,b11,true,b14,b15,b16,b18,x42,x44,x45,x46,x48,x49,x50,_,x53,x54,x55,x57,rfl,Jt a0 x42 x44 x45 x46 x48 x49 x50 x51 x53 x54 x55 x57 _,⟨hf.below (by go_grown),au_ hl (by go_grown),ha.below (by go_grown)⟩,t3,t5,t6,fun h=>(t7 h).below (by go_grown),t9,fun h=>(t10 h).below (by go_grown),t11,fun _=>⟨_,_,_,rfl,Blk.new _ _ _,rfl,(fun v hv=>by simp at hv;rcases hv with rfl | rfl<;>exact⟨_,rfl,by decide⟩),hq⟩,t14,fun h=>(t15 h).below (by go_grown),t16,t18⟩
   ·cases h0
   ·have hb:b14=false:=h0
    subst hb
    simp only[Yp,Yt,Yo,Zo] at ho
    subst ho
    have hq:=hf.lt
    have e1:=(Ik a0 x42 x44 x45 x46 x48 x49 x50 x51 x53 x54 x55 x57).trans f52
    refine cL_ rfl rfl (fun K hK=>?_)
    generalize hA:Ax a0 x42 x44 x45 x46 x48 x49 x50 x51 x53 x54 x55 x57=A at *
    replace e1:A.tmps[52]?.getD undef=.pointer (some ⟨B,0,none⟩):=by simpa [Act.eval] using e1
    go_simp
    try rw[e1]
    refine (Av B 2 u hf (by omega) (by omega)).mono ?_
    rintro e u1 ⟨⟨n,rfl,hn⟩,ht,hc⟩
    dsimp only
    refine hK.out _ _ ⟨trivial,?_⟩
    rw[<-hA]
    exact⟨b3,b5,b6,b7,b9,b10,b11,b12,true,b15,b16,b18,x42,x44,x45,x46,x48,x49,x50,x51,_,x54,x55,x57,rfl,Ju a0 x42 x44 x45 x46 x48 x49 x50 x51 x53 x54 x55 x57 _,⟨ht,aV_ hl hc,ha.grown hc (by omega)⟩,t3,t5,t6,fun h=>(t7 h).grown hc,t9,fun h=>(t10 h).grown hc,t11,fun h=>(t12 h).grown hc,fun _=>⟨n,rfl,hn⟩,fun h=>(t15 h).grown hc,t16,t18⟩
   ·have hb:b15=false:=h0
    subst hb
    simp only[Yp,Yt,Yo,Zo] at ho
    subst ho
    have hq:=hf.lt
    have dl:b12=true:=hg ⟨12,.data⟩ (by simp) rfl
    have dn:b14=true:=hg ⟨14,.data⟩ (by simp) rfl
    obtain⟨lb,cs,lt,hx,hB,hJ,hw,hH⟩:=t12 dl
    obtain⟨n,hy,hn⟩:=t14 dn
    obtain⟨s,hs,hC⟩:=En hB hJ hw hn
    have e1:=(Ij fsz x42 x44 x45 x46 x48 x49 x50 x51 x53 x54 x55 x57).trans hx
    have e2:=(Il fsz x42 x44 x45 x46 x48 x49 x50 x51 x53 x54 x55 x57).trans hy
    have h1:(0:Int)<=n:=by omega
    have h2:(n:Int)<2:=by omega
    refine cL_ rfl rfl (fun K hK=>?_)
    generalize hA:Ax a0 x42 x44 x45 x46 x48 x49 x50 x51 x53 x54 x55 x57=A at *
    simp only[Oper.wp,execOp,e1,e2]
    go_simp
    refine hK.out _ _ ⟨trivial,?_⟩
    rw[<-hA]
    exact⟨b3,b5,b6,b7,b9,b10,b11,b12,b14,true,b16,b18,x42,x44,x45,x46,x48,x49,x50,x51,x53,_,x55,x57,rfl,Jv a0 x42 x44 x45 x46 x48 x49 x50 x51 x53 x54 x55 x57 _,⟨hf,hl,ha⟩,t3,t5,t6,t7,t9,t10,t11,t12,t14,fun _=>⟨lb,n,s,rfl,hs,hC,hH⟩,t16,t18⟩
   ·have hb:b16=false:=h0
    subst hb
    simp only[Yp,Yt,Yo,Zo] at ho
    subst ho
    have hq:=hf.lt
    have dl:b15=true:=hg ⟨15,.data⟩ (by simp) rfl
    obtain⟨lb,li,s,hx,hs,hC,hH⟩:=t15 dl
    have e1:=(Im fsz x42 x44 x45 x46 x48 x49 x50 x51 x53 x54 x55 x57).trans hx
    refine cL_ rfl rfl (fun K hK=>?_)
    generalize hA:Ax a0 x42 x44 x45 x46 x48 x49 x50 x51 x53 x54 x55 x57=A at *
    simp only[Oper.wp,execOp,e1]
    go_simp
    refine hK.out _ _ ⟨trivial,?_⟩
    rw[<-hA]
    exact⟨b3,b5,b6,b7,b9,b10,b11,b12,b14,b15,true,b18,x42,x44,x45,x46,x48,x49,x50,x51,x53,x54,_,x57,rfl,Jw a0 x42 x44 x45 x46 x48 x49 x50 x51 x53 x54 x55 x57 _,⟨hf,hl,ha⟩,t3,t5,t6,t7,t9,t10,t11,t12,t14,t15,fun _=>⟨s,rfl,hC⟩,fun h=>absurd (t18 h).2.2.2.1 (by simp)⟩
   ·cases h0
   ·have hb:b18=false:=h0
    subst hb
    simp only[Yp,Yt,Yo,Zo] at ho
    subst ho
    have hq:=hf.lt
    have d3:b3=true:=hg ⟨3,.data⟩ (by simp) rfl
    have d6:b6=true:=hg ⟨6,.data⟩ (by simp) rfl
    have d11:b11=true:=hg ⟨11,.data⟩ (by simp) rfl
    have d16:b16=true:=hg ⟨16,.data⟩ (by simp) rfl
    obtain⟨n42,hM,_⟩:=t3 d3
    obtain⟨n45,hN⟩:=t6 d6
    obtain⟨s50,hO,_⟩:=t11 d11
    obtain⟨s55,hP,_⟩:=t16 d16
    have e39:=(H7 a0 x42 x44 x45 x46 x48 x49 x50 x51 x53 x54 x55 x57).trans f39
    have e40:=(H8 a0 x42 x44 x45 x46 x48 x49 x50 x51 x53 x54 x55 x57).trans f40
    have e56:=(Io a0 x42 x44 x45 x46 x48 x49 x50 x51 x53 x54 x55 x57).trans f56
    have e42:=(Ia fsz x42 x44 x45 x46 x48 x49 x50 x51 x53 x54 x55 x57).trans hM
    have e45:=(Id fsz x42 x44 x45 x46 x48 x49 x50 x51 x53 x54 x55 x57).trans hN
    have e50:=(Ii fsz x42 x44 x45 x46 x48 x49 x50 x51 x53 x54 x55 x57).trans hO
    have e55:=(In fsz x42 x44 x45 x46 x48 x49 x50 x51 x53 x54 x55 x57).trans hP
    refine cL_ rfl rfl (fun K hK=>?_)
    generalize hA:Ax a0 x42 x44 x45 x46 x48 x49 x50 x51 x53 x54 x55 x57=A at *
    simp only[Oper.wp,execOp,List.map_toArray,YD,List.map_nil,e39,e40,e56,e42,e45,e50,e55]
    go_simp
    refine hK.out _ _ ⟨trivial,?_⟩
    rw[<-hA]
    exact⟨b3,b5,b6,b7,b9,b10,b11,b12,b14,b15,b16,true,x42,x44,x45,x46,x48,x49,x50,x51,x53,x54,x55,_,rfl,Jx a0 x42 x44 x45 x46 x48 x49 x50 x51 x53 x54 x55 x57 _,⟨hf,hl,ha⟩,t3,t5,t6,t7,t9,t10,t11,t12,t14,t15,t16,fun _=>⟨d3,d6,d11,d16,by rw[hM,hN,hO,hP]⟩⟩
   ·cases h0
 ·have x0:=D4.cell 0
  have x1:=D4.cell 1
  have x2:=D4.cell 2
  have x3:=D4.cell 3
  have x4:=D4.cell 4
  have x5:=D4.cell 5
  have x6:=D4.cell 6
  have x7:=D4.cell 7
  have x8:=D4.cell 8
  simp only[Yp,Yo,Yt] at x0 x1 x2 x3 x4 x5 x6 x7 x8
  have f0:=D4.frozen 0
  have f1:=D4.frozen 1
  have f2:=D4.frozen 2
  have f3:=D4.frozen 3
  have f4:=D4.frozen 4
  have f5:=D4.frozen 5
  have f6:=D4.frozen 6
  have f7:=D4.frozen 7
  have f8:=D4.frozen 8
  go_wp2
  obtain⟨W0,hh⟩:=Fi D4 (.int .i64 1) (.string vol) (.string ⟨#[]⟩) (.string ⟨#[]⟩) (.string ⟨#[]⟩) (.int .i64 0) (.int .i64 0) (.int .i64 0) (.string ⟨#[]⟩)
  have hp:=hE.grown hh hD
  have hm:=Ay hF hh (fun k e=>by cases e;exact Zd _)
  generalize (((((((((w4.setCell ⟨w.heap.size,0,none⟩ (.int .i64 1)).setCell ⟨w.heap.size,1,none⟩ (.string vol)).setCell ⟨w.heap.size,2,none⟩ (.string ⟨#[]⟩)).setCell ⟨w.heap.size,3,none⟩ (.string ⟨#[]⟩)).setCell ⟨w.heap.size,4,none⟩ (.string ⟨#[]⟩)).setCell ⟨w.heap.size,5,none⟩ (.int .i64 0)).setCell ⟨w.heap.size,6,none⟩ (.int .i64 0)).setCell ⟨w.heap.size,7,none⟩ (.int .i64 0)).setCell ⟨w.heap.size,8,none⟩ (.string ⟨#[]⟩))=W8 at *
  refine YW (results_cell_row rfl _ W8 w.heap.size _ _ _ _ rfl W0 underlying43 rfl (by kernel_rfl)) rfl ?_
  exact⟨⟨⟨1,vol,⟨#[]⟩,⟨#[]⟩,⟨#[]⟩,0,0,0,⟨#[]⟩⟩,rfl,⟨(Zl hj (by decide)),Au,Au,Au,Au⟩⟩,hp,hm⟩
 ·have x0:=D4.cell 0
  have x1:=D4.cell 1
  have x2:=D4.cell 2
  have x3:=D4.cell 3
  have x4:=D4.cell 4
  have x5:=D4.cell 5
  have x6:=D4.cell 6
  have x7:=D4.cell 7
  have x8:=D4.cell 8
  simp only[Yp,Yo,Yt] at x0 x1 x2 x3 x4 x5 x6 x7 x8
  have f0:=D4.frozen 0
  have f1:=D4.frozen 1
  have f2:=D4.frozen 2
  have f3:=D4.frozen 3
  have f4:=D4.frozen 4
  have f5:=D4.frozen 5
  have f6:=D4.frozen 6
  have f7:=D4.frozen 7
  have f8:=D4.frozen 8
  go_wp2
  obtain⟨W0,hh⟩:=Fi D4 (.int .i64 3) (.string vol) (.string file) (.string ⟨#[]⟩) (.string ⟨#[]⟩) (.int .i64 0) (.int .i64 0) (.int .i64 at0) (.string ⟨#[]⟩)
  have hp:=hE.grown hh hD
  have hm:=Ay hF hh (fun k e=>by cases e;exact Zd _)
  generalize (((((((((w4.setCell ⟨w.heap.size,0,none⟩ (.int .i64 3)).setCell ⟨w.heap.size,1,none⟩ (.string vol)).setCell ⟨w.heap.size,2,none⟩ (.string file)).setCell ⟨w.heap.size,3,none⟩ (.string ⟨#[]⟩)).setCell ⟨w.heap.size,4,none⟩ (.string ⟨#[]⟩)).setCell ⟨w.heap.size,5,none⟩ (.int .i64 0)).setCell ⟨w.heap.size,6,none⟩ (.int .i64 0)).setCell ⟨w.heap.size,7,none⟩ (.int .i64 at0)).setCell ⟨w.heap.size,8,none⟩ (.string ⟨#[]⟩))=W8 at *
  refine YW (results_cell_row rfl _ W8 w.heap.size _ _ _ _ rfl W0 underlying43 rfl (by kernel_rfl)) rfl ?_
  exact⟨⟨⟨3,vol,file,⟨#[]⟩,⟨#[]⟩,0,0,at0,⟨#[]⟩⟩,rfl,⟨(Zl hj (by decide)),(Zl hk (by decide)),Au,Au,Au⟩⟩,hp,hm⟩
 ·have x0:=D4.cell 0
  have x1:=D4.cell 1
  have x2:=D4.cell 2
  have x3:=D4.cell 3
  have x4:=D4.cell 4
  have x5:=D4.cell 5
  have x6:=D4.cell 6
  have x7:=D4.cell 7
  have x8:=D4.cell 8
  simp only[Yp,Yo,Yt] at x0 x1 x2 x3 x4 x5 x6 x7 x8
  have f0:=D4.frozen 0
  have f1:=D4.frozen 1
  have f2:=D4.frozen 2
  have f3:=D4.frozen 3
  have f4:=D4.frozen 4
  have f5:=D4.frozen 5
  have f6:=D4.frozen 6
  have f7:=D4.frozen 7
  have f8:=D4.frozen 8
  go_wp2
  obtain⟨W0,hh⟩:=Fi D4 (.int .i64 4) (.string vol) (.string file) (.string ⟨#[]⟩) (.string ⟨#[]⟩) (.int .i64 0) (.int .i64 0) (.int .i64 0) (.string ⟨#[]⟩)
  have hp:=hE.grown hh hD
  have hm:=Ay hF hh (fun k e=>by cases e;exact Zd _)
  generalize (((((((((w4.setCell ⟨w.heap.size,0,none⟩ (.int .i64 4)).setCell ⟨w.heap.size,1,none⟩ (.string vol)).setCell ⟨w.heap.size,2,none⟩ (.string file)).setCell ⟨w.heap.size,3,none⟩ (.string ⟨#[]⟩)).setCell ⟨w.heap.size,4,none⟩ (.string ⟨#[]⟩)).setCell ⟨w.heap.size,5,none⟩ (.int .i64 0)).setCell ⟨w.heap.size,6,none⟩ (.int .i64 0)).setCell ⟨w.heap.size,7,none⟩ (.int .i64 0)).setCell ⟨w.heap.size,8,none⟩ (.string ⟨#[]⟩))=W8 at *
  refine YW (results_cell_row rfl _ W8 w.heap.size _ _ _ _ rfl W0 underlying43 rfl (by kernel_rfl)) rfl ?_
  exact⟨⟨⟨4,vol,file,⟨#[]⟩,⟨#[]⟩,0,0,0,⟨#[]⟩⟩,rfl,⟨(Zl hj (by decide)),(Zl hk (by decide)),Au,Au,Au⟩⟩,hp,hm⟩
 ·go_wp2_with fail
  refine (Av B 3 _ (hE.below (by go_grown)) (by omega) (by omega)).mono ?_
  rintro e w5 ⟨⟨j5,rfl,hS⟩,hG,hu⟩
  have D5:=(D4.alloc _).grown hu (by omega)
  have L5:=(Blk.new w4 #[.string ⟨#[118]⟩,.string ⟨#[119]⟩,.string ⟨#[120]⟩] 9).grown hu (by omega)
  have hI:=aV_ (au_ hF (by go_grown)) hu
  obtain⟨tt,qq,hL⟩:=En L5 rfl (fun v hv=>by simp at hv;rcases hv with rfl | rfl | rfl<;>exact⟨_,rfl,by decide⟩) hS
  have x0:=D5.cell 0
  have x1:=D5.cell 1
  have x2:=D5.cell 2
  have x3:=D5.cell 3
  have x4:=D5.cell 4
  have x5:=D5.cell 5
  have x6:=D5.cell 6
  have x7:=D5.cell 7
  have x8:=D5.cell 8
  simp only[Yp,Yo,Yt] at x0 x1 x2 x3 x4 x5 x6 x7 x8
  have f0:=D5.frozen 0
  have f1:=D5.frozen 1
  have f2:=D5.frozen 2
  have f3:=D5.frozen 3
  have f4:=D5.frozen 4
  have f5:=D5.frozen 5
  have f6:=D5.frozen 6
  have f7:=D5.frozen 7
  have f8:=D5.frozen 8
  go_wp2
  obtain⟨W0,hh⟩:=Fi D5 (.int .i64 6) (.string vol) (.string ⟨#[]⟩) (.string tt) (.string ⟨#[]⟩) (.int .i64 0) (.int .i64 0) (.int .i64 0) (.string ⟨#[]⟩)
  have hp:=hG.grown hh hD
  have hm:=Ay hI hh (fun k e=>by cases e;exact Zd _)
  generalize (((((((((w5.setCell ⟨w.heap.size,0,none⟩ (.int .i64 6)).setCell ⟨w.heap.size,1,none⟩ (.string vol)).setCell ⟨w.heap.size,2,none⟩ (.string ⟨#[]⟩)).setCell ⟨w.heap.size,3,none⟩ (.string tt)).setCell ⟨w.heap.size,4,none⟩ (.string ⟨#[]⟩)).setCell ⟨w.heap.size,5,none⟩ (.int .i64 0)).setCell ⟨w.heap.size,6,none⟩ (.int .i64 0)).setCell ⟨w.heap.size,7,none⟩ (.int .i64 0)).setCell ⟨w.heap.size,8,none⟩ (.string ⟨#[]⟩))=W8 at *
  refine YW (results_cell_row rfl _ W8 w.heap.size _ _ _ _ rfl W0 underlying43 rfl (by kernel_rfl)) rfl ?_
  exact⟨⟨⟨6,vol,⟨#[]⟩,tt,⟨#[]⟩,0,0,0,⟨#[]⟩⟩,rfl,⟨(Zl hj (by decide)),Au,(Zl hL (by decide)),Au,Au⟩⟩,hp,hm⟩
 ·go_wp2_with fail
  refine (Av B 3 _ (hE.below (by go_grown)) (by omega) (by omega)).mono ?_
  rintro e w5 ⟨⟨j5,rfl,hS⟩,hG,hu⟩
  have D5:=(D4.alloc _).grown hu (by omega)
  have L5:=(Blk.new w4 #[.string ⟨#[118]⟩,.string ⟨#[119]⟩,.string ⟨#[120]⟩] 9).grown hu (by omega)
  have hI:=aV_ (au_ hF (by go_grown)) hu
  obtain⟨tt,qq,hL⟩:=En L5 rfl (fun v hv=>by simp at hv;rcases hv with rfl | rfl | rfl<;>exact⟨_,rfl,by decide⟩) hS
  have x0:=D5.cell 0
  have x1:=D5.cell 1
  have x2:=D5.cell 2
  have x3:=D5.cell 3
  have x4:=D5.cell 4
  have x5:=D5.cell 5
  have x6:=D5.cell 6
  have x7:=D5.cell 7
  have x8:=D5.cell 8
  simp only[Yp,Yo,Yt] at x0 x1 x2 x3 x4 x5 x6 x7 x8
  have f0:=D5.frozen 0
  have f1:=D5.frozen 1
  have f2:=D5.frozen 2
  have f3:=D5.frozen 3
  have f4:=D5.frozen 4
  have f5:=D5.frozen 5
  have f6:=D5.frozen 6
  have f7:=D5.frozen 7
  have f8:=D5.frozen 8
  go_wp2
  obtain⟨W0,hh⟩:=Fi D5 (.int .i64 6) (.string vol) (.string ⟨#[]⟩) (.string tt) (.string ⟨#[]⟩) (.int .i64 0) (.int .i64 0) (.int .i64 0) (.string ⟨#[]⟩)
  have hp:=hG.grown hh hD
  have hm:=Ay hI hh (fun k e=>by cases e;exact Zd _)
  generalize (((((((((w5.setCell ⟨w.heap.size,0,none⟩ (.int .i64 6)).setCell ⟨w.heap.size,1,none⟩ (.string vol)).setCell ⟨w.heap.size,2,none⟩ (.string ⟨#[]⟩)).setCell ⟨w.heap.size,3,none⟩ (.string tt)).setCell ⟨w.heap.size,4,none⟩ (.string ⟨#[]⟩)).setCell ⟨w.heap.size,5,none⟩ (.int .i64 0)).setCell ⟨w.heap.size,6,none⟩ (.int .i64 0)).setCell ⟨w.heap.size,7,none⟩ (.int .i64 0)).setCell ⟨w.heap.size,8,none⟩ (.string ⟨#[]⟩))=W8 at *
  refine YW (results_cell_row rfl _ W8 w.heap.size _ _ _ _ rfl W0 underlying43 rfl (by kernel_rfl)) rfl ?_
  exact⟨⟨⟨6,vol,⟨#[]⟩,tt,⟨#[]⟩,0,0,0,⟨#[]⟩⟩,rfl,⟨(Zl hj (by decide)),Au,(Zl hL (by decide)),Au,Au⟩⟩,hp,hm⟩
 ·have x0:=D4.cell 0
  have x1:=D4.cell 1
  have x2:=D4.cell 2
  have x3:=D4.cell 3
  have x4:=D4.cell 4
  have x5:=D4.cell 5
  have x6:=D4.cell 6
  have x7:=D4.cell 7
  have x8:=D4.cell 8
  simp only[Yp,Yo,Yt] at x0 x1 x2 x3 x4 x5 x6 x7 x8
  have f0:=D4.frozen 0
  have f1:=D4.frozen 1
  have f2:=D4.frozen 2
  have f3:=D4.frozen 3
  have f4:=D4.frozen 4
  have f5:=D4.frozen 5
  have f6:=D4.frozen 6
  have f7:=D4.frozen 7
  have f8:=D4.frozen 8
  go_wp2
  obtain⟨W0,hh⟩:=Fi D4 (.int .i64 7) (.string vol) (.string ⟨#[]⟩) (.string ⟨#[]⟩) (.string ⟨#[]⟩) (.int .i64 0) (.int .i64 0) (.int .i64 0) (.string ⟨#[]⟩)
  have hp:=hE.grown hh hD
  have hm:=Ay hF hh (fun k e=>by cases e;exact Zd _)
  generalize (((((((((w4.setCell ⟨w.heap.size,0,none⟩ (.int .i64 7)).setCell ⟨w.heap.size,1,none⟩ (.string vol)).setCell ⟨w.heap.size,2,none⟩ (.string ⟨#[]⟩)).setCell ⟨w.heap.size,3,none⟩ (.string ⟨#[]⟩)).setCell ⟨w.heap.size,4,none⟩ (.string ⟨#[]⟩)).setCell ⟨w.heap.size,5,none⟩ (.int .i64 0)).setCell ⟨w.heap.size,6,none⟩ (.int .i64 0)).setCell ⟨w.heap.size,7,none⟩ (.int .i64 0)).setCell ⟨w.heap.size,8,none⟩ (.string ⟨#[]⟩))=W8 at *
  refine YW (results_cell_row rfl _ W8 w.heap.size _ _ _ _ rfl W0 underlying43 rfl (by kernel_rfl)) rfl ?_
  exact⟨⟨⟨7,vol,⟨#[]⟩,⟨#[]⟩,⟨#[]⟩,0,0,0,⟨#[]⟩⟩,rfl,⟨(Zl hj (by decide)),Au,Au,Au,Au⟩⟩,hp,hm⟩
 ·go_wp2_with fail
  refine (FC B 3 _ hE (by omega) (by omega)).mono ?_
  rintro e w5 ⟨⟨b5,rfl⟩,hG,hu⟩
  have D5:=D4.grown hu (by omega)
  have hI:=aV_ hF hu
  cases b5
  ·have x0:=D5.cell 0
   have x1:=D5.cell 1
   have x2:=D5.cell 2
   have x3:=D5.cell 3
   have x4:=D5.cell 4
   have x5:=D5.cell 5
   have x6:=D5.cell 6
   have x7:=D5.cell 7
   have x8:=D5.cell 8
   simp only[Yp,Yo,Yt] at x0 x1 x2 x3 x4 x5 x6 x7 x8
   have f0:=D5.frozen 0
   have f1:=D5.frozen 1
   have f2:=D5.frozen 2
   have f3:=D5.frozen 3
   have f4:=D5.frozen 4
   have f5:=D5.frozen 5
   have f6:=D5.frozen 6
   have f7:=D5.frozen 7
   have f8:=D5.frozen 8
   go_wp2
   obtain⟨W0,hh⟩:=Fi D5 (.int .i64 9) (.string ⟨#[]⟩) (.string ⟨#[]⟩) (.string ⟨#[]⟩) (.string ⟨#[]⟩) (.int .i64 0) (.int .i64 0) (.int .i64 0) (.string ⟨#[]⟩)
   have hp:=hG.grown hh hD
   have hm:=Ay hI hh (fun k e=>by cases e;exact Zd _)
   generalize (((((((((w5.setCell ⟨w.heap.size,0,none⟩ (.int .i64 9)).setCell ⟨w.heap.size,1,none⟩ (.string ⟨#[]⟩)).setCell ⟨w.heap.size,2,none⟩ (.string ⟨#[]⟩)).setCell ⟨w.heap.size,3,none⟩ (.string ⟨#[]⟩)).setCell ⟨w.heap.size,4,none⟩ (.string ⟨#[]⟩)).setCell ⟨w.heap.size,5,none⟩ (.int .i64 0)).setCell ⟨w.heap.size,6,none⟩ (.int .i64 0)).setCell ⟨w.heap.size,7,none⟩ (.int .i64 0)).setCell ⟨w.heap.size,8,none⟩ (.string ⟨#[]⟩))=W8 at *
   refine YW (results_cell_row rfl _ W8 w.heap.size _ _ _ _ rfl W0 underlying43 rfl (by kernel_rfl)) rfl ?_
   exact⟨⟨⟨9,⟨#[]⟩,⟨#[]⟩,⟨#[]⟩,⟨#[]⟩,0,0,0,⟨#[]⟩⟩,rfl,⟨Au,Au,Au,Au,Au⟩⟩,hp,hm⟩
  ·have x0:=D5.cell 0
   have x1:=D5.cell 1
   have x2:=D5.cell 2
   have x3:=D5.cell 3
   have x4:=D5.cell 4
   have x5:=D5.cell 5
   have x6:=D5.cell 6
   have x7:=D5.cell 7
   have x8:=D5.cell 8
   simp only[Yp,Yo,Yt] at x0 x1 x2 x3 x4 x5 x6 x7 x8
   have f0:=D5.frozen 0
   have f1:=D5.frozen 1
   have f2:=D5.frozen 2
   have f3:=D5.frozen 3
   have f4:=D5.frozen 4
   have f5:=D5.frozen 5
   have f6:=D5.frozen 6
   have f7:=D5.frozen 7
   have f8:=D5.frozen 8
   go_wp2
   obtain⟨W0,hh⟩:=Fi D5 (.int .i64 8) (.string vol) (.string ⟨#[]⟩) (.string ⟨#[]⟩) (.string ⟨#[]⟩) (.int .i64 0) (.int .i64 0) (.int .i64 0) (.string ⟨#[]⟩)
   have hp:=hG.grown hh hD
   have hm:=Ay hI hh (fun k e=>by cases e;exact Zd _)
   generalize (((((((((w5.setCell ⟨w.heap.size,0,none⟩ (.int .i64 8)).setCell ⟨w.heap.size,1,none⟩ (.string vol)).setCell ⟨w.heap.size,2,none⟩ (.string ⟨#[]⟩)).setCell ⟨w.heap.size,3,none⟩ (.string ⟨#[]⟩)).setCell ⟨w.heap.size,4,none⟩ (.string ⟨#[]⟩)).setCell ⟨w.heap.size,5,none⟩ (.int .i64 0)).setCell ⟨w.heap.size,6,none⟩ (.int .i64 0)).setCell ⟨w.heap.size,7,none⟩ (.int .i64 0)).setCell ⟨w.heap.size,8,none⟩ (.string ⟨#[]⟩))=W8 at *
   refine YW (results_cell_row rfl _ W8 w.heap.size _ _ _ _ rfl W0 underlying43 rfl (by kernel_rfl)) rfl ?_
   exact⟨⟨⟨8,vol,⟨#[]⟩,⟨#[]⟩,⟨#[]⟩,0,0,0,⟨#[]⟩⟩,rfl,⟨(Zl hj (by decide)),Au,Au,Au,Au⟩⟩,hp,hm⟩
 ·have x0:=D4.cell 0
  have x1:=D4.cell 1
  have x2:=D4.cell 2
  have x3:=D4.cell 3
  have x4:=D4.cell 4
  have x5:=D4.cell 5
  have x6:=D4.cell 6
  have x7:=D4.cell 7
  have x8:=D4.cell 8
  simp only[Yp,Yo,Yt] at x0 x1 x2 x3 x4 x5 x6 x7 x8
  have f0:=D4.frozen 0
  have f1:=D4.frozen 1
  have f2:=D4.frozen 2
  have f3:=D4.frozen 3
  have f4:=D4.frozen 4
  have f5:=D4.frozen 5
  have f6:=D4.frozen 6
  have f7:=D4.frozen 7
  have f8:=D4.frozen 8
  go_wp2
  obtain⟨W0,hh⟩:=Fi D4 (.int .i64 9) (.string ⟨#[]⟩) (.string ⟨#[]⟩) (.string ⟨#[]⟩) (.string ⟨#[]⟩) (.int .i64 0) (.int .i64 0) (.int .i64 0) (.string ⟨#[]⟩)
  have hp:=hE.grown hh hD
  have hm:=Ay hF hh (fun k e=>by cases e;exact Zd _)
  generalize (((((((((w4.setCell ⟨w.heap.size,0,none⟩ (.int .i64 9)).setCell ⟨w.heap.size,1,none⟩ (.string ⟨#[]⟩)).setCell ⟨w.heap.size,2,none⟩ (.string ⟨#[]⟩)).setCell ⟨w.heap.size,3,none⟩ (.string ⟨#[]⟩)).setCell ⟨w.heap.size,4,none⟩ (.string ⟨#[]⟩)).setCell ⟨w.heap.size,5,none⟩ (.int .i64 0)).setCell ⟨w.heap.size,6,none⟩ (.int .i64 0)).setCell ⟨w.heap.size,7,none⟩ (.int .i64 0)).setCell ⟨w.heap.size,8,none⟩ (.string ⟨#[]⟩))=W8 at *
  refine YW (results_cell_row rfl _ W8 w.heap.size _ _ _ _ rfl W0 underlying43 rfl (by kernel_rfl)) rfl ?_
  exact⟨⟨⟨9,⟨#[]⟩,⟨#[]⟩,⟨#[]⟩,⟨#[]⟩,0,0,0,⟨#[]⟩⟩,rfl,⟨Au,Au,Au,Au,Au⟩⟩,hp,hm⟩
 ·go_wp2_with fail
  refine (Av B 6 _ hE (by omega) (by omega)).mono ?_
  rintro e w5 ⟨⟨j5,rfl,hS⟩,hG,hu⟩
  have D5:=D4.grown hu (by omega)
  have hI:=aV_ hF hu
  have x0:=D5.cell 0
  have x1:=D5.cell 1
  have x2:=D5.cell 2
  have x3:=D5.cell 3
  have x4:=D5.cell 4
  have x5:=D5.cell 5
  have x6:=D5.cell 6
  have x7:=D5.cell 7
  have x8:=D5.cell 8
  simp only[Yp,Yo,Yt] at x0 x1 x2 x3 x4 x5 x6 x7 x8
  have f0:=D5.frozen 0
  have f1:=D5.frozen 1
  have f2:=D5.frozen 2
  have f3:=D5.frozen 3
  have f4:=D5.frozen 4
  have f5:=D5.frozen 5
  have f6:=D5.frozen 6
  have f7:=D5.frozen 7
  have f8:=D5.frozen 8
  go_wp2
  obtain⟨W0,hh⟩:=Fi D5 (.int .i64 10) (.string vol) (.string file) (.string ⟨#[]⟩) (.string ⟨#[]⟩) (.int .i64 at0) (.int .i64 0) (.int .i64 (1+(j5:Int))) (.string ⟨#[]⟩)
  have hp:=hG.grown hh hD
  have hm:=Ay hI hh (fun k e=>by cases e;exact Zd _)
  generalize (((((((((w5.setCell ⟨w.heap.size,0,none⟩ (.int .i64 10)).setCell ⟨w.heap.size,1,none⟩ (.string vol)).setCell ⟨w.heap.size,2,none⟩ (.string file)).setCell ⟨w.heap.size,3,none⟩ (.string ⟨#[]⟩)).setCell ⟨w.heap.size,4,none⟩ (.string ⟨#[]⟩)).setCell ⟨w.heap.size,5,none⟩ (.int .i64 at0)).setCell ⟨w.heap.size,6,none⟩ (.int .i64 0)).setCell ⟨w.heap.size,7,none⟩ (.int .i64 (1+(j5:Int)))).setCell ⟨w.heap.size,8,none⟩ (.string ⟨#[]⟩))=W8 at *
  refine YW (results_cell_row rfl _ W8 w.heap.size _ _ _ _ rfl W0 underlying43 rfl (by kernel_rfl)) rfl ?_
  exact⟨⟨⟨10,vol,file,⟨#[]⟩,⟨#[]⟩,at0,0,1+(j5:Int),⟨#[]⟩⟩,rfl,⟨(Zl hj (by decide)),(Zl hk (by decide)),Au,Au,Au⟩⟩,hp,hm⟩
 ·have nz0:¬ (z:Int)=0:=by omega
  have nz1:¬ (z:Int)=1:=by omega
  have nz2:¬ (z:Int)=2:=by omega
  have nz3:¬ (z:Int)=3:=by omega
  have nz4:¬ (z:Int)=4:=by omega
  have nz5:¬ (z:Int)=5:=by omega
  have nz6:¬ (z:Int)=6:=by omega
  have nz7:¬ (z:Int)=7:=by omega
  have nz8:¬ (z:Int)=8:=by omega
  have nz9:¬ (z:Int)=9:=by omega
  have nz10:¬ (z:Int)=10:=by omega
  go_wp2_with fail
  refine (Ka B _ hE).mono ?_
  rintro e w5 ⟨⟨dd,rfl,qi⟩,hG,hu⟩
  have D5:=D4.grown hu (by omega)
  have hI:=aV_ hF hu
  have qv:=hG.lt
  have qw:=hu.size
  clear nz0 nz1 nz2 nz3 nz4 nz5 nz6 nz7 nz8 nz9 nz10
  go_wp2_with fail
  refine (FC B 30 _ (hG.below (by go_grown)) (by omega) (by omega)).mono ?_
  rintro e w6 ⟨⟨b6,rfl⟩,qh,hV⟩
  have D6:=(D5.alloc _).grown hV (by omega)
  have P6:=(Blk.new w5 #[.int .i64 2,.string vol,.string file,.string ⟨#[]⟩,.string ⟨#[]⟩,.int .i64 at0,.int .i64 0,.int .i64 0,.string dd] 43).grown hV (by omega)
  have qe:=aV_ (au_ hI (by go_grown)) hV
  have qy:w.heap.size<w5.heap.size:=by have:=D5.lt;omega
  have qo:¬ w.heap.size=w5.heap.size:=by omega
  have qp:¬ w5.heap.size=w.heap.size:=by omega
  cases b6
  ·have p0:=P6.cell 0
   have p1:=P6.cell 1
   have p2:=P6.cell 2
   have p3:=P6.cell 3
   have p4:=P6.cell 4
   have p5:=P6.cell 5
   have p6:=P6.cell 6
   have p7:=P6.cell 7
   have p8:=P6.cell 8
   simp only[Yp,Yo,Yt] at p0 p1 p2 p3 p4 p5 p6 p7 p8
   have q0:=P6.frozen 0
   have q1:=P6.frozen 1
   have q2:=P6.frozen 2
   have q3:=P6.frozen 3
   have q4:=P6.frozen 4
   have q5:=P6.frozen 5
   have q6:=P6.frozen 6
   have q7:=P6.frozen 7
   have q8:=P6.frozen 8
   have x0:=D6.cell 0
   have x1:=D6.cell 1
   have x2:=D6.cell 2
   have x3:=D6.cell 3
   have x4:=D6.cell 4
   have x5:=D6.cell 5
   have x6:=D6.cell 6
   have x7:=D6.cell 7
   have x8:=D6.cell 8
   simp only[Yp,Yo,Yt] at x0 x1 x2 x3 x4 x5 x6 x7 x8
   have f0:=D6.frozen 0
   have f1:=D6.frozen 1
   have f2:=D6.frozen 2
   have f3:=D6.frozen 3
   have f4:=D6.frozen 4
   have f5:=D6.frozen 5
   have f6:=D6.frozen 6
   have f7:=D6.frozen 7
   have f8:=D6.frozen 8
   go_wp2
   obtain⟨W0,hh⟩:=Fi D6 (.int .i64 2) (.string vol) (.string file) (.string ⟨#[]⟩) (.string ⟨#[]⟩) (.int .i64 at0) (.int .i64 0) (.int .i64 0) (.string dd)
   have hp:=qh.grown hh hD
   have hm:=Ay qe hh (fun k e=>by cases e;exact Zd _)
   generalize (((((((((w6.setCell ⟨w.heap.size,0,none⟩ (.int .i64 2)).setCell ⟨w.heap.size,1,none⟩ (.string vol)).setCell ⟨w.heap.size,2,none⟩ (.string file)).setCell ⟨w.heap.size,3,none⟩ (.string ⟨#[]⟩)).setCell ⟨w.heap.size,4,none⟩ (.string ⟨#[]⟩)).setCell ⟨w.heap.size,5,none⟩ (.int .i64 at0)).setCell ⟨w.heap.size,6,none⟩ (.int .i64 0)).setCell ⟨w.heap.size,7,none⟩ (.int .i64 0)).setCell ⟨w.heap.size,8,none⟩ (.string dd))=W8 at *
   refine YW (results_cell_row rfl _ W8 w.heap.size _ _ _ _ rfl W0 underlying43 rfl (by kernel_rfl)) rfl ?_
   exact⟨⟨⟨2,vol,file,⟨#[]⟩,⟨#[]⟩,at0,0,0,dd⟩,rfl,⟨(Zl hj (by decide)),(Zl hk (by decide)),Au,Au,(Zl qi (by decide))⟩⟩,hp,hm⟩
  ·go_wp2_with fail
   refine (Fj B 0 100 _ qh (by omega) (by omega) (by omega)).mono ?_
   rintro e w7 ⟨⟨v7,rfl,qx,qr⟩,ql,hW⟩
   have D7:=D6.grown hW (by omega)
   have P7:=P6.grown hW (by omega)
   have qj:=aV_ qe hW
   have p0:=P7.cell 0
   have p1:=P7.cell 1
   have p2:=P7.cell 2
   have p3:=P7.cell 3
   have p4:=P7.cell 4
   have p5:=P7.cell 5
   have p6:=P7.cell 6
   have p7:=P7.cell 7
   have p8:=P7.cell 8
   simp only[Yp,Yo,Yt] at p0 p1 p2 p3 p4 p5 p6 p7 p8
   have q0:=P7.frozen 0
   have q1:=P7.frozen 1
   have q2:=P7.frozen 2
   have q3:=P7.frozen 3
   have q4:=P7.frozen 4
   have q5:=P7.frozen 5
   have q6:=P7.frozen 6
   have q7:=P7.frozen 7
   have q8:=P7.frozen 8
   have x0:=D7.cell 0
   have x1:=D7.cell 1
   have x2:=D7.cell 2
   have x3:=D7.cell 3
   have x4:=D7.cell 4
   have x5:=D7.cell 5
   have x6:=D7.cell 6
   have x7:=D7.cell 7
   have x8:=D7.cell 8
   simp only[Yp,Yo,Yt] at x0 x1 x2 x3 x4 x5 x6 x7 x8
   have f0:=D7.frozen 0
   have f1:=D7.frozen 1
   have f2:=D7.frozen 2
   have f3:=D7.frozen 3
   have f4:=D7.frozen 4
   have f5:=D7.frozen 5
   have f6:=D7.frozen 6
   have f7:=D7.frozen 7
   have f8:=D7.frozen 8
   go_wp2
   have hX:=CS w7 w5.heap.size 5 (.int .i64 v7)
   have D8:=D7.grown hX (by omega)
   have qm:=ql.grown hX (by omega)
   have qk:=Ay qj hX (fun k e=>by cases e;omega)
   obtain⟨W0,hh⟩:=Fi D8 (.int .i64 2) (.string vol) (.string file) (.string ⟨#[]⟩) (.string ⟨#[]⟩) (.int .i64 v7) (.int .i64 0) (.int .i64 0) (.string dd)
   have hp:=qm.grown hh hD
   have hm:=Ay qk hh (fun k e=>by cases e;exact Zd _)
   generalize ((((((((((w7.setCell ⟨w5.heap.size,5,none⟩ (.int .i64 v7)).setCell ⟨w.heap.size,0,none⟩ (.int .i64 2)).setCell ⟨w.heap.size,1,none⟩ (.string vol)).setCell ⟨w.heap.size,2,none⟩ (.string file)).setCell ⟨w.heap.size,3,none⟩ (.string ⟨#[]⟩)).setCell ⟨w.heap.size,4,none⟩ (.string ⟨#[]⟩)).setCell ⟨w.heap.size,5,none⟩ (.int .i64 v7)).setCell ⟨w.heap.size,6,none⟩ (.int .i64 0)).setCell ⟨w.heap.size,7,none⟩ (.int .i64 0)).setCell ⟨w.heap.size,8,none⟩ (.string dd))=W8 at *
   refine YW (results_cell_row rfl _ W8 w.heap.size _ _ _ _ rfl W0 underlying43 rfl (by kernel_rfl)) rfl ?_
   exact⟨⟨⟨2,vol,file,⟨#[]⟩,⟨#[]⟩,v7,0,0,dd⟩,rfl,⟨(Zl hj (by decide)),(Zl hk (by decide)),Au,Au,(Zl qi (by decide))⟩⟩,hp,hm⟩
end Go.Proofs.YtkiceokhlceciaaGreatDoor
