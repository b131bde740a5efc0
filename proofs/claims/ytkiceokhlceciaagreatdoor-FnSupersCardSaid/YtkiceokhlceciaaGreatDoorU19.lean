/- Plain facts: what the model's joining of right parts is right for. -/
import Derived.Test.YtkiceokhlceciaaGreatDoorU18
set_option maxHeartbeats 20000000
set_option maxRecDepth 100000
namespace Go.Proofs.YtkiceokhlceciaaGreatDoor
section
open Go Go.RowKit
variable{B y:Int}{l m:List Pt}{p x:Pt}
theorem iw_ (hl:Ae l=true)(hm:Ae m=true):Ae (At l m)=decide (Aj l+Aj m<=100∧(At l m).length<=16):=by
 have sl:=ae_ hl;have sm:=ae_ hm;have nl:=az_ l sl.2.1;have nm:=az_ m sm.2.1
 obtain⟨b1,b2⟩:=kT_ m l 200 (by
  have hp:=f5_ hl;exact f4_ l none 100 200 hp (by omega) (by omega)) sm.2.1 (by omega) (by omega) (by omega)
 rw[YH];simp only[Ae,Zf,ZU];constructor
 ·rintro⟨h1,h2⟩
  have:=cH_ _ none 100 (by omega) h2
  exact⟨by omega,h1⟩
 ·rintro⟨h1,h2⟩;exact⟨h2,f4_ _ none 200 100 b1 (by omega) (by omega)⟩
theorem kU_ {fr to:Int}(l:List Pt):∀ st,to<=st->(∀ p∈l,1<=p.n)->slp fr to st l=[]:=by
 induction l with
 |nil=>intro st _ _;rfl
 |cons p r ih=>
  intro st h hp
  have:=hp p (by simp)
  rw[fo_ (by omega)];exact ih _ (by omega) (fun q hq=>hp q (by simp[hq]))
theorem p9_ {x:Int}(h:Ao p=true)(h0:0<=x)(h1:x<y)(h2:y<=p.n):Ao (Ed p x y)=true:=by
 unfold Ao at *;unfold Ed;by_cases ha:p.a=0
 ·simp[ha];omega
 ·have hb:(p.a==0)=false:=by simp[ha]
  simp only[hb,Zj,if_false,Zf,ZU] at h ⊢;omega
def Mt (x x':Pt):Prop:=x'.a=x.a∧(x.a=0∨x'.f+x'.n=x.f+x.n)
theorem oK_ {x':Pt}(ht:Mt x x')(hg:Be x p=false):Be x' (Ed p 0 y)=false:=by
 obtain⟨h1,h2⟩:=ht;unfold Be at *;unfold Ed;by_cases ha:p.a=0
 ·simp[ha] at hg ⊢;rw[h1];exact hg
 ·have hb:(p.a==0)=false:=by simp[ha]
  simp only[hb,Zj,if_false,Bool.false_or,Int.add_zero] at hg ⊢;rw[h1];rcases h2 with h2 | h2
  ·have:(p.a==x.a)=false:=by rw[h2];exact hb
   simp[this]
  ·rw[h2];exact hg
theorem qa_ (fr to:Int)(l:List Pt):∀ (st B:Int) (q q':Option Pt),0<=B->pgo q B l=true->(∀ x',q'=some x'->fr<=st∧∃ x,q=some x∧Mt x x')->pgo q' B (slp fr to st l)=true:=by
 induction l with
 |nil=>intro st B q q' _ _ _;cases q'<;>rfl
 |cons p r ih=>
  intro st B q q' hB h hq;obtain⟨h1,h2,h3,h4⟩:=aX_.1 h;have hm:=av_ h1;have hg:=cH_ r (some p) (B-p.n) (by omega) h4;have hc:∀ y∈r,1<=y.n:=fun y hy=>av_ (hg.1 y hy);by_cases hx:max (fr-st) 0<min (to-st) p.n
  ·rw[eN_ rfl rfl hx];have hb:=mQ_ hx
   have he:pgo (some (Ed p (max (fr-st) 0) (min (to-st) p.n))) (B-p.n) (slp fr to (st+p.n) r)=true:=by
    by_cases hy:p.n<=to-st
    ·refine ih (st+p.n) (B-p.n) (some p) _ (by omega) h4 ?_;intro x' hf;obtain rfl:=Zi hf;refine⟨by omega,p,rfl,?_⟩;unfold Mt Ed;by_cases ha:p.a=0
     ·simp[ha]
     ·have hj:(p.a==0)=false:=by simp[ha]
      simp only[hj,Zj,if_false];exact⟨trivial,.inr (by omega)⟩
    ·rw[kU_ r (st+p.n) (by omega) hc];rfl
   have hh:=hT_ fr to r (st+p.n) hc;refine aX_.2 ⟨p9_ h1 (by omega) hx (by omega),by omega,?_,f4_ _ _ _ _ he (by omega) (by omega)⟩;intro x' hf;obtain⟨hk,x,hl,ht⟩:=hq x' hf;have e:max (fr-st) 0=0:=by omega
   rw[e];exact oK_ ht (h3 x hl)
  ·rw[fo_ hx]
   cases q' with
   |some x'=>
    obtain⟨hk,_⟩:=hq x' rfl;rw[kU_ r (st+p.n) (by omega) hc];rfl
   |none=>
    have:=ih (st+p.n) (B-p.n) (some p) none (by omega) h4 (fun x' hf=>(by cases hf))
    have hh:=hT_ fr to r (st+p.n) hc;exact f4_ _ _ _ _ this (by omega) hB
theorem b8_ (h:Ae l=true)(fr to:Int):pgo none 100 (slp fr to 0 l)=true:=
 qa_ fr to l 0 100 none none (by omega) (f5_ h) (fun x' ha=>(by cases ha))
end
section
open Go Go.RowKit Go.BigFrame Tryz
variable{B:Nat}
theorem Ad.set4V {w:World}{b n cap i:Nat}{rows:List VR}{r:VR}(h:Ad vrs 4 80 w B (some ⟨b,0,none⟩) n cap rows)(hi:rows[i]?=some r)(r':VR):
  Ad vrs 4 80 ((((w.setCell ⟨b,i*4,none⟩ (.int .i64 r'.id)).setCell ⟨b,i*4+1,none⟩ (.string r'.nm)).setCell ⟨b,i*4+2,none⟩ (.bool r'.fx)).setCell ⟨b,i*4+3,none⟩ (.slice r'.pa r'.pn r'.pc)) B (some ⟨b,0,none⟩) n cap (rows.set i r'):=by
 have hl:=(Zb.1 hi).1;have q1:=Ad.set1 (j:=0) (v:=.int .i64 r'.id) (x':={r with id:=r'.id}) a2_ h hi (by omega) rfl;have q2:=Ad.set1 (j:=1) (v:=.string r'.nm) (x':={r with id:=r'.id,nm:=r'.nm}) a2_ q1 (Zx hl) (by omega) rfl;rw[List.set_set] at q2;have q3:=Ad.set1 (j:=2) (v:=.bool r'.fx) (x':={r with id:=r'.id,nm:=r'.nm,fx:=r'.fx}) a2_ q2 (Zx hl) (by omega) rfl;rw[List.set_set] at q3;have q4:=Ad.set1 (j:=3) (v:=.slice r'.pa r'.pn r'.pc) (x':=r') a2_ q3 (Zx hl) (by omega) rfl;rw[List.set_set] at q4;exact q4
theorem Gj (w:World)(b i:Nat)(v0 v1 v2 v3:Value):w.grownBy ((((w.setCell ⟨b,i,none⟩ v0).setCell ⟨b,i+1,none⟩ v1).setCell ⟨b,i+2,none⟩ v2).setCell ⟨b,i+3,none⟩ v3) (some b):=af_ (af_ (af_ (CS w b i v0) (i+1) v1) (i+2) v2) (i+3) v3
theorem Kl.uni {e:Ending}{w':World}{q:Option (List Pt)}(h:Kl B e w' q):∃ qa qn qc,e=.returned (.tuple #[.slice qa qn qc,.bool q.isSome])∧BI w' qa qn (q.getD []):=by
 cases q with
 |none=>exact⟨none,0,0,h,rfl,fun i x hx=>by simp at hx⟩
 |some ps=>obtain⟨a,n,c,h1,h2,_⟩:=h;exact⟨a,n,c,h1,h2⟩
theorem bH_ {p:Po}{vol file:ByteArray}(hp:Ap p=true):Ae ((AH p.vs vol file).getD [])=true:=by
 cases h:AH p.vs vol file with
 |none=>rfl
 |some ps=>exact (bb_ hp h).1
theorem f6_ (B:Nat)(hB0:0<B)(v:Value)(p:Po)(o:Opr)(w:World)(h:Ag B w v p)(hNn:NnE v)(hBw:B<=w.heap.size)(hd:AJ p)(hp:Ap p=true)(hk:o.k=10)(i:Nat)(hso:Bb p.vs o.vol=some i)(hfx:∀ x:Vo,p.vs[i]?=some x->x.fx=false)(q:List Pt)(hpo:AH p.vs o.vol o.file=some q)(ha:0<=o.at'∧o.at'<=100)(hl:1<=o.ln∧o.ln<=100):
  Calls prog 66 #[v,.agg #[.int .i64 o.k,.string o.vol,.string o.file,.string o.to,.string o.into,.int .i64 o.at',.int .i64 o.fr,.int .i64 o.ln,.string o.data]] w fun e w'=>(∃ v' c,e=.returned (.tuple #[v',.int .i64 c])∧Bn v'∧c=(Ak p o).1∧(c=0->Ag B w' v' (Ak p o).2∧(Ai p o).2.2.length<=1000))∧Below B w w'∧FrV w w':=by
 have hE:=h.at';obtain⟨ea,en,ec,va,vn,vc,ra,rn,rc,la,ln,lc,rows,rfl,h1,⟨h2,h3⟩,h4,h5,h6⟩:=h;have hM:=hd;obtain⟨z1,z2,z3,z4,z5,z6,z7,z8⟩:=hd;have hV:Bp B w va vn p.vs:=h3.rows.vs h2;rw[hV.len] at z3;obtain⟨size,next,ex,vs,rf,lt⟩:=p;obtain⟨k,vol,file,tt,into,at0,fr,ln0,data⟩:=o;simp only at h1 h2 h3 h4 h5 hV z4 z3 hE hp hk ⊢;have _:=hB0;have _:=hNn;have _:=hBw;have _:=hp;have hT:vs.length=vn:=hV.len;have hW:rows.length=vn:=h2.sl.len;simp only at hso hfx hpo ha hl;subst hk;have hi:=ap_ hso;have hO:i<vn:=by omega
 have hx:vs[i]?=some vs[i]:=by simp[hi]
 have h7:(0:Int)<=(i:Int):=by omega
 have hP:(i:Int)<vn:=by omega
 have hr:rows[i]?=some (rows[i]'(by omega)):=by simp[hW,hO]
 have VT:=h3.at' i _ _ hr hx;generalize rows[i]'(by omega)=r0 at *;generalize vs[i]=x at *;obtain⟨rid,rnm,rfx,pa0,pn0,pc0⟩:=r0;obtain⟨e1,e2,e3,irows,RI,TI⟩:=VT;simp only at e1 e2 e3 RI;subst e1 e2 e3;obtain⟨vb,rfl,hX,hY,hZ⟩:=h2.addr (by omega);have hf:=hfx _ hx;clear hfx;have hJ:Ai ⟨size,next,ex,vs,rf,lt⟩ ⟨10,vol,file,tt,into,at0,fr,ln0,data⟩=(0,ex,Bd q at0 [⟨0,0,ln0⟩]):=by simp[Ai,hpo]
 have hS:Hid (Ak ⟨size,next,ex,vs,rf,lt⟩ ⟨10,vol,file,tt,into,at0,fr,ln0,data⟩=(0,⟨size,next,ex,vs.set i ⟨x.id,x.nm,x.fx,CV ⟨file,Bd q at0 [⟨0,0,ln0⟩]⟩ x.its⟩,rf,lt⟩)):=by show _=_;simp[Ak,hso,hx,hf,hJ]
 generalize hF:Ai ⟨size,next,ex,vs,rf,lt⟩ ⟨10,vol,file,tt,into,at0,fr,ln0,data⟩=PS at *;replace hF:Hid (Ai ⟨size,next,ex,vs,rf,lt⟩ ⟨10,vol,file,tt,into,at0,fr,ln0,data⟩=PS):=hF;generalize Ak ⟨size,next,ex,vs,rf,lt⟩ ⟨10,vol,file,tt,into,at0,fr,ln0,data⟩=R at *;have hN:Hid (x.fx=false):=hf;clear hf;go_enter func66,ntmps66
 go_wp2_with fail
 refine (ak_ B size next ea en ec (some ⟨vb,0,none⟩) vn vc ra rn rc la ln lc vs vol _ (hV.below (by go_grown)) z3).mono ?_;rintro e w1 ⟨rfl,hD⟩;obtain⟨C,O,D,hn,h9⟩:=bx3 hD;clear hD;rw[hso];simp only[BJ];obtain⟨c0,c1,c2,c3,c4,c5⟩:=C.six';obtain⟨o0,o1,o2,o3,o4,o5,o6,o7,o8⟩:=ce9 O;obtain⟨x0,x1,x2,x3,x4,x5⟩:=D.six';obtain⟨f0,f1,f2,f3,f4,f5⟩:=fz6 D;have RA:=h2.below hn;have e2:w1.cell? ⟨vb,i*4+2,none⟩=some (.bool x.fx):=RA.cellAt (j:=2) hr rfl;rw[hN.out] at e2
 go_wp2_with fail
 refine (aH_ B _ ⟨size,next,ex,vs,rf,lt⟩ vol file _ (hE.below hn) hM).mono ?_;rintro e wA ⟨hs,hq⟩;obtain⟨qa,qn,qc,rfl,hQ⟩:=hs.uni;clear hs;have ho:Ae ((AH vs vol file).getD [])=true:=bH_ (p:=⟨size,next,ex,vs,rf,lt⟩) hp;simp only at hQ ⊢;clear c0 c1 c2 c3 c4 c5 o0 o1 o2 o3 o4 o5 o6 o7 o8 x0 x1 x2 x3 x4 x5 f0 f1 f2 f3 f4 f5;have C':=C.below hq;have D':=D.below hq;have O':=O.below hq;have hw:=Aa hn hq;have qe:=hq.size;clear C D O e2 RA;obtain⟨c0,c1,c2,c3,c4,c5⟩:=C'.six';obtain⟨o0,o1,o2,o3,o4,o5,o6,o7,o8⟩:=ce9 O';obtain⟨x0,x1,x2,x3,x4,x5⟩:=D'.six';obtain⟨f0,f1,f2,f3,f4,f5⟩:=fz6 D';rw[hpo] at hQ ho ⊢;simp only[Yw,Option.isSome_some] at hQ ho ⊢;have hB:Ae [⟨0,0,ln0⟩]=true:=by simp[Ae,pgo,Ao];omega
 have hU:qn<=16:=by rw[<-hQ.len];exact (ae_ ho).1
 have hC:∀ k,0<=Aj (q.take k)∧Aj (q.take k)<=100:=fun k=>by have h1:=a6_ (ae_ ho).2.1 k;have h2:=(ae_ ho).2.2;omega
 go_wp2_with fail
 refine (aZ_ qa qn qc q _ hQ (by omega) hC).mono ?_;rintro e wB ⟨rfl,rfl⟩
 go_wp2_with fail
 refine (cM_ qa qn qc q at0 _ 1 1 [⟨0,0,ln0⟩] _ (hQ.below (by go_grown)) (ck_ _ ⟨0,0,ln0⟩ _ _ (by simp)) ho hB ha.1 ha.2).mono ?_;rintro e wL ⟨⟨pa1,pn1,pc1,rfl,h8,Rp⟩,hI⟩;have hm:Below wB.heap.size wB wL:=Aa (by go_grown) hI;have CL:=C'.below hm;have DL:=D'.below hm;have hc:=Aa hw hm;have hL:B<=(wB.alloc (.cells #[.int .i64 0,.int .i64 0,.int .i64 ln0] 124)).heap.size:=by simp;omega
 clear c0 c1 c2 c3 c4 c5 o0 o1 o2 o3 o4 o5 o6 o7 o8 x0 x1 x2 x3 x4 x5 f0 f1 f2 f3 f4 f5;have RL:=h2.below hc;have e0:wL.cell? ⟨vb,i*4,none⟩=some (.int .i64 x.id):=RL.cellAt (j:=0) hr rfl;have e1:wL.cell? ⟨vb,i*4+1,none⟩=some (.string x.nm):=RL.cellAt (j:=1) hr rfl;have e2:wL.cell? ⟨vb,i*4+2,none⟩=some (.bool x.fx):=RL.cellAt (j:=2) hr rfl;have e3:wL.cell? ⟨vb,i*4+3,none⟩=some (.slice pa0 pn0 pc0):=RL.cellAt (j:=3) hr rfl;have k3:wL.cell? ⟨w.heap.size,3,none⟩=some (.slice (some ⟨vb,0,none⟩) vn vc):=CL.cell 3;have qf:=hc.size;have hR:pn0<=4194304:=by have:=(z4 x (Zc hx)).2.1;rw[(TI.rows.its RI).len] at this;exact this
 go_wp2_with fail
 have hy:∀ u,Below wL.heap.size wL u->(fun u=>u.cell? ⟨w.heap.size,3,none⟩=some (.slice (some ⟨vb,0,none⟩) vn vc)∧u.cell? ⟨vb,i*4,none⟩=some (.int .i64 x.id)∧u.cell? ⟨vb,i*4+1,none⟩=some (.string x.nm)∧u.cell? ⟨vb,i*4+2,none⟩=some (.bool x.fx)∧u.cell? ⟨vb,i*4+3,none⟩=some (.slice pa0 pn0 pc0)) u:=fun u hu=>⟨Ab hu k3,Ab hu e0,Ab hu e1,Ab hu e2,Ab hu e3⟩;have h0:=hy wL.drew ((Yg _ _).drew);refine ar_ (S:=(fun u=>u.cell? ⟨w.heap.size,3,none⟩=some (.slice (some ⟨vb,0,none⟩) vn vc)∧u.cell? ⟨vb,i*4,none⟩=some (.int .i64 x.id)∧u.cell? ⟨vb,i*4+1,none⟩=some (.string x.nm)∧u.cell? ⟨vb,i*4+2,none⟩=some (.bool x.fx)∧u.cell? ⟨vb,i*4+3,none⟩=some (.slice pa0 pn0 pc0))) 12 (by kernel_rfl) (by kernel_rfl) ?_;refine tk 0 ?_;refine tk 1 ?_;refine tk 2 ?_;refine tk 3 ?_;refine tk 4 ?_;refine tk 5 ?_;refine tk 6 ?_;refine tk 7 ?_;refine tk 8 ?_;refine tk 9 ?_;refine Aq (i:=10) (by kernel_rfl) rfl (fun K hK=>?_);go_simp;refine (cB_ B x.id x.nm x.fx x.its pa0 pn0 pc0 irows file pa1 pn1 pc1 (Bd q at0 [⟨0,0,ln0⟩]) _ ((RI.below hc).below ((Yg _ _).drew)) ((TI.below hc).below ((Yg _ _).drew)) ((Rp.mono hL).below ((Yg _ _).drew)) hR).mono ?_;rintro e w5 ⟨⟨a2,n2,cap2,nrows,rfl,RN,TN⟩,hv⟩;have hg:Below wL.heap.size wL w5:=Aa ((Yg _ _).drew) hv;have qd:=hg.size;dsimp only;refine hK.out _ _ (hy _ hg) (fun hHeld=>?_);clear hK K
 try simp only[Act.put,lsA,lsB,lsC]
 refine tk 11 ?_;refine wpAnyH_done (by kernel_rfl) ?_ _;refine lastL rfl ?_;have hh:=Aa hc hg;have ht:=RL.below hg;obtain⟨vcs,VB⟩:=ht.blkAt;have z0:=VB.frozen (i*4);have z1':=VB.frozen (i*4+1);have z2':=VB.frozen (i*4+2);have z3':=VB.frozen (i*4+3);have v0:=Ab hg e0;have v1:=Ab hg e1;have v2:=Ab hg e2;have v3:=Ab hg e3;have he:=Gj w5 vb (i*4) (.int .i64 x.id) (.string x.nm) (.bool x.fx) (.slice a2 n2 cap2);have hj:BF w5 (some vb) 80:=aa_ VB;have R1:=ht.set4V hr ⟨x.id,x.nm,x.fx,a2,n2,cap2⟩;simp only at R1;have T1:=((h3.below hh).ty he hj (by decide) (by decide)).set i (show CE B _ ⟨x.id,x.nm,x.fx,a2,n2,cap2⟩ ⟨x.id,x.nm,x.fx,CV ⟨file,(Bd q at0 [⟨0,0,ln0⟩])⟩ x.its⟩ from ⟨rfl,rfl,rfl,nrows,(RN.ty he hj (by decide)).mono (by simp only[World.size_drew] at *;omega),TN.ty he hj (by decide)⟩);have C2:=(CL.below hg).ty he hj (by decide);have D2:=(DL.below hg).ty he hj (by decide);have P2:Ag B ((((w5.setCell ⟨vb,i*4,none⟩ (.int .i64 x.id)).setCell ⟨vb,i*4+1,none⟩ (.string x.nm)).setCell ⟨vb,i*4+2,none⟩ (.bool x.fx)).setCell ⟨vb,i*4+3,none⟩ (.slice a2 n2 cap2)) (.agg #[.int .i64 size,.int .i64 next,.slice ea en ec,.slice (some ⟨vb,0,none⟩) vn vc,.slice ra rn rc,.slice la ln lc]) ⟨size,next,ex,vs.set i ⟨x.id,x.nm,x.fx,CV ⟨file,Bd q at0 [⟨0,0,ln0⟩]⟩ x.its⟩,rf,lt⟩:=⟨ea,en,ec,some ⟨vb,0,none⟩,vn,vc,ra,rn,rc,la,ln,lc,_,rfl,((h1.below hc).below hg).ty he hj (by decide),⟨R1,T1⟩,(h4.below hh).ty he hj (by decide),(h5.below hh).ty he hj (by decide),h6⟩;obtain⟨y0,y1,y2,y3,y4,y5⟩:=C2.six';obtain⟨q0,q1,q2,q3,q4,q5⟩:=D2.six';obtain⟨m0,m1,m2,m3,m4,m5⟩:=fz6 D2;have hH:=(hh.mono hBw).grown he (by omega) (fun j e=>by cases e;exact hX);have qb:=he.size;have FT0:Hid (FrV w ((((w5.setCell ⟨vb,i*4,none⟩ (.int .i64 x.id)).setCell ⟨vb,i*4+1,none⟩ (.string x.nm)).setCell ⟨vb,i*4+2,none⟩ (.bool x.fx)).setCell ⟨vb,i*4+3,none⟩ (.slice a2 n2 cap2))):=fun k c t hb hA=>(hb.below hh).ty he hj hA;clear R1 T1 he ht VB hj hy;go_wp2;obtain⟨W8,hG,W0,hz⟩:=Ba D2 (.int .i64 size) (.int .i64 next) (.slice ea en ec) (.slice (some ⟨vb,0,none⟩) vn vc) (.slice ra rn rc) (.slice la ln lc);have PF:=P2.tyP hz (aa_ D2);have B8:=hH.grown hz (by omega) (fun j e=>by cases e;omega);have FT:=fun (k:Nat) (c:Array Value) (t:TypeId) (hb:Blk w k c t) (hA:t≠80)=>(FT0.out k c t hb hA).offB hz (B:=w.heap.size) (fun j e=>by cases e;omega) hb.lt;rw[<-hG];clear hG;refine YW (ad_ rfl _ W8 (w.heap.size+2) _ _ _ _ _ rfl W0 underlying28 rfl (by kernel_rfl) rfl) rfl ?_;exact⟨⟨_,0,rfl,bm_ _ _ _ _ _ _ _ _ _ _ _ _ _ _,by rw[hS.out],fun _=>⟨by rw[hS.out];exact PF,by exact Zl (Zm Rp.sl.len) (by omega)⟩⟩,B8,FT⟩
theorem e7_ (B:Nat)(hB0:0<B)(v:Value)(p:Po)(o:Opr)(w:World)(h:Ag B w v p)(hNn:NnE v)(hBw:B<=w.heap.size)(hd:AJ p)(hp:Ap p=true)(hk:o.k=3)(i:Nat)(hso:Bb p.vs o.vol=some i)(hfx:∀ x:Vo,p.vs[i]?=some x->x.fx=false)(q:List Pt)(hpo:AH p.vs o.vol o.file=some q)(hl:0<=o.ln∧o.ln<=100)(hgt:Aj q<o.ln):
  Calls prog 66 #[v,.agg #[.int .i64 o.k,.string o.vol,.string o.file,.string o.to,.string o.into,.int .i64 o.at',.int .i64 o.fr,.int .i64 o.ln,.string o.data]] w fun e w'=>(∃ v' c,e=.returned (.tuple #[v',.int .i64 c])∧Bn v'∧c=(Ak p o).1∧(c=0->Ag B w' v' (Ak p o).2∧(Ai p o).2.2.length<=1000))∧Below B w w'∧FrV w w':=by
 have hD:=h.at';obtain⟨ea,en,ec,va,vn,vc,ra,rn,rc,la,ln,lc,rows,rfl,h1,⟨h2,h3⟩,h4,h5,h6⟩:=h;have hM:=hd;obtain⟨z1,z2,z3,z4,z5,z6,z7,z8⟩:=hd;have hV:Bp B w va vn p.vs:=h3.rows.vs h2;rw[hV.len] at z3;obtain⟨size,next,ex,vs,rf,lt⟩:=p;obtain⟨k,vol,file,tt,into,at0,fr,ln0,data⟩:=o;simp only at h1 h2 h3 h4 h5 hV z4 z3 hD hp hk ⊢;have _:=hB0;have _:=hNn;have _:=hBw;have _:=hp;have hT:vs.length=vn:=hV.len;have hW:rows.length=vn:=h2.sl.len;simp only at hso hfx hpo hl hgt;subst hk;have hi:=ap_ hso;have hO:i<vn:=by omega
 have hx:vs[i]?=some vs[i]:=by simp[hi]
 have h7:(0:Int)<=(i:Int):=by omega
 have hP:(i:Int)<vn:=by omega
 have hr:rows[i]?=some (rows[i]'(by omega)):=by simp[hW,hO]
 have VT:=h3.at' i _ _ hr hx;generalize rows[i]'(by omega)=r0 at *;generalize vs[i]=x at *;obtain⟨rid,rnm,rfx,pa0,pn0,pc0⟩:=r0;obtain⟨e1,e2,e3,irows,RI,TI⟩:=VT;simp only at e1 e2 e3 RI;subst e1 e2 e3;obtain⟨vb,rfl,hX,hY,hZ⟩:=h2.addr (by omega);have hf:=hfx _ hx;clear hfx;have hJ:Ai ⟨size,next,ex,vs,rf,lt⟩ ⟨3,vol,file,tt,into,at0,fr,ln0,data⟩=(0,ex,Bd q (Aj q) [⟨0,0,ln0-Aj q⟩]):=by simp[Ai,hpo,hgt]
 have hS:Hid (Ak ⟨size,next,ex,vs,rf,lt⟩ ⟨3,vol,file,tt,into,at0,fr,ln0,data⟩=(0,⟨size,next,ex,vs.set i ⟨x.id,x.nm,x.fx,CV ⟨file,Bd q (Aj q) [⟨0,0,ln0-Aj q⟩]⟩ x.its⟩,rf,lt⟩)):=by show _=_;simp[Ak,hso,hx,hf,hJ]
 generalize hE:Ai ⟨size,next,ex,vs,rf,lt⟩ ⟨3,vol,file,tt,into,at0,fr,ln0,data⟩=PS at *;replace hE:Hid (Ai ⟨size,next,ex,vs,rf,lt⟩ ⟨3,vol,file,tt,into,at0,fr,ln0,data⟩=PS):=hE;generalize Ak ⟨size,next,ex,vs,rf,lt⟩ ⟨3,vol,file,tt,into,at0,fr,ln0,data⟩=R at *;have hN:Hid (x.fx=false):=hf;clear hf;go_enter func66,ntmps66
 go_wp2_with fail
 refine (ak_ B size next ea en ec (some ⟨vb,0,none⟩) vn vc ra rn rc la ln lc vs vol _ (hV.below (by go_grown)) z3).mono ?_;rintro e w1 ⟨rfl,hC⟩;obtain⟨C,O,D,hm,h9⟩:=bx3 hC;clear hC;rw[hso];simp only[BJ];obtain⟨c0,c1,c2,c3,c4,c5⟩:=C.six';obtain⟨o0,o1,o2,o3,o4,o5,o6,o7,o8⟩:=ce9 O;obtain⟨x0,x1,x2,x3,x4,x5⟩:=D.six';obtain⟨f0,f1,f2,f3,f4,f5⟩:=fz6 D;have RA:=h2.below hm;have e2:w1.cell? ⟨vb,i*4+2,none⟩=some (.bool x.fx):=RA.cellAt (j:=2) hr rfl;rw[hN.out] at e2
 go_wp2_with fail
 refine (aH_ B _ ⟨size,next,ex,vs,rf,lt⟩ vol file _ (hD.below hm) hM).mono ?_;rintro e wA ⟨hq,ho⟩;obtain⟨qa,qn,qc,rfl,hQ⟩:=hq.uni;clear hq;have hn:Ae ((AH vs vol file).getD [])=true:=bH_ (p:=⟨size,next,ex,vs,rf,lt⟩) hp;simp only at hQ ⊢;clear c0 c1 c2 c3 c4 c5 o0 o1 o2 o3 o4 o5 o6 o7 o8 x0 x1 x2 x3 x4 x5 f0 f1 f2 f3 f4 f5;have C':=C.below ho;have D':=D.below ho;have O':=O.below ho;have hw:=Aa hm ho;have qe:=ho.size;clear C D O e2 RA;obtain⟨c0,c1,c2,c3,c4,c5⟩:=C'.six';obtain⟨o0,o1,o2,o3,o4,o5,o6,o7,o8⟩:=ce9 O';obtain⟨x0,x1,x2,x3,x4,x5⟩:=D'.six';obtain⟨f0,f1,f2,f3,f4,f5⟩:=fz6 D';rw[hpo] at hQ hn ⊢;simp only[Yw,Option.isSome_some] at hQ hn ⊢;have hU:qn<=16:=by rw[<-hQ.len];exact (ae_ hn).1
 have hs:∀ k,0<=Aj (q.take k)∧Aj (q.take k)<=100:=fun k=>by have h1:=a6_ (ae_ hn).2.1 k;have h2:=(ae_ hn).2.2;omega
 have hG:0<=Aj q∧Aj q<=100:=by have:=hs q.length;rwa [List.take_length] at this
 go_wp2_with fail
 refine (aZ_ qa qn qc q _ hQ (by omega) hs).mono ?_;rintro e wB ⟨rfl,rfl⟩;have hB:Ae [⟨0,0,ln0-Aj q⟩]=true:=by simp[Ae,pgo,Ao];omega
 have qg:IntKind.i64.wrap (ln0-Aj q)=ln0-Aj q:=by rw[Ys];omega
 go_wp2_with fail
 refine (cM_ qa qn qc q (Aj q) _ 1 1 [⟨0,0,ln0-Aj q⟩] _ (hQ.below (by go_grown)) (ck_ _ ⟨0,0,ln0-Aj q⟩ _ _ (by simp)) hn hB hG.1 hG.2).mono ?_;rintro e wL ⟨⟨pa1,pn1,pc1,rfl,h8,Rp⟩,hI⟩;have hj:Below wB.heap.size wB wL:=Aa (by go_grown) hI;have CL:=C'.below hj;have DL:=D'.below hj;have ha:=Aa hw hj;have hL:B<=(wB.alloc (.cells #[.int .i64 0,.int .i64 0,.int .i64 (ln0-Aj q)] 124)).heap.size:=by simp;omega
 clear c0 c1 c2 c3 c4 c5 o0 o1 o2 o3 o4 o5 o6 o7 o8 x0 x1 x2 x3 x4 x5 f0 f1 f2 f3 f4 f5;have RL:=h2.below ha;have e0:wL.cell? ⟨vb,i*4,none⟩=some (.int .i64 x.id):=RL.cellAt (j:=0) hr rfl;have e1:wL.cell? ⟨vb,i*4+1,none⟩=some (.string x.nm):=RL.cellAt (j:=1) hr rfl;have e2:wL.cell? ⟨vb,i*4+2,none⟩=some (.bool x.fx):=RL.cellAt (j:=2) hr rfl;have e3:wL.cell? ⟨vb,i*4+3,none⟩=some (.slice pa0 pn0 pc0):=RL.cellAt (j:=3) hr rfl;have k3:wL.cell? ⟨w.heap.size,3,none⟩=some (.slice (some ⟨vb,0,none⟩) vn vc):=CL.cell 3;have qf:=ha.size;have hR:pn0<=4194304:=by have:=(z4 x (Zc hx)).2.1;rw[(TI.rows.its RI).len] at this;exact this
 go_wp2_with fail
 have hy:∀ u,Below wL.heap.size wL u->(fun u=>u.cell? ⟨w.heap.size,3,none⟩=some (.slice (some ⟨vb,0,none⟩) vn vc)∧u.cell? ⟨vb,i*4,none⟩=some (.int .i64 x.id)∧u.cell? ⟨vb,i*4+1,none⟩=some (.string x.nm)∧u.cell? ⟨vb,i*4+2,none⟩=some (.bool x.fx)∧u.cell? ⟨vb,i*4+3,none⟩=some (.slice pa0 pn0 pc0)) u:=fun u hu=>⟨Ab hu k3,Ab hu e0,Ab hu e1,Ab hu e2,Ab hu e3⟩;have h0:=hy wL.drew ((Yg _ _).drew);refine ar_ (S:=(fun u=>u.cell? ⟨w.heap.size,3,none⟩=some (.slice (some ⟨vb,0,none⟩) vn vc)∧u.cell? ⟨vb,i*4,none⟩=some (.int .i64 x.id)∧u.cell? ⟨vb,i*4+1,none⟩=some (.string x.nm)∧u.cell? ⟨vb,i*4+2,none⟩=some (.bool x.fx)∧u.cell? ⟨vb,i*4+3,none⟩=some (.slice pa0 pn0 pc0))) 12 (by kernel_rfl) (by kernel_rfl) ?_;refine tk 0 ?_;refine tk 1 ?_;refine tk 2 ?_;refine tk 3 ?_;refine tk 4 ?_;refine tk 5 ?_;refine tk 6 ?_;refine tk 7 ?_;refine tk 8 ?_;refine tk 9 ?_;refine Aq (i:=10) (by kernel_rfl) rfl (fun K hK=>?_);go_simp;refine (cB_ B x.id x.nm x.fx x.its pa0 pn0 pc0 irows file pa1 pn1 pc1 (Bd q (Aj q) [⟨0,0,ln0-Aj q⟩]) _ ((RI.below ha).below ((Yg _ _).drew)) ((TI.below ha).below ((Yg _ _).drew)) ((Rp.mono hL).below ((Yg _ _).drew)) hR).mono ?_;rintro e w5 ⟨⟨a2,n2,cap2,nrows,rfl,RN,TN⟩,hv⟩;have he:Below wL.heap.size wL w5:=Aa ((Yg _ _).drew) hv;have qd:=he.size;dsimp only;refine hK.out _ _ (hy _ he) (fun hHeld=>?_);clear hK K
 try simp only[Act.put,lsA,lsB,lsC]
 refine tk 11 ?_;refine wpAnyH_done (by kernel_rfl) ?_ _;refine lastL rfl ?_;have hg:=Aa ha he;have ht:=RL.below he;obtain⟨vcs,VB⟩:=ht.blkAt;have z0:=VB.frozen (i*4);have z1':=VB.frozen (i*4+1);have z2':=VB.frozen (i*4+2);have z3':=VB.frozen (i*4+3);have v0:=Ab he e0;have v1:=Ab he e1;have v2:=Ab he e2;have v3:=Ab he e3;have hc:=Gj w5 vb (i*4) (.int .i64 x.id) (.string x.nm) (.bool x.fx) (.slice a2 n2 cap2);have hh:BF w5 (some vb) 80:=aa_ VB;have R1:=ht.set4V hr ⟨x.id,x.nm,x.fx,a2,n2,cap2⟩;simp only at R1;have T1:=((h3.below hg).ty hc hh (by decide) (by decide)).set i (show CE B _ ⟨x.id,x.nm,x.fx,a2,n2,cap2⟩ ⟨x.id,x.nm,x.fx,CV ⟨file,(Bd q (Aj q) [⟨0,0,ln0-Aj q⟩])⟩ x.its⟩ from ⟨rfl,rfl,rfl,nrows,(RN.ty hc hh (by decide)).mono (by simp only[World.size_drew] at *;omega),TN.ty hc hh (by decide)⟩);have C2:=(CL.below he).ty hc hh (by decide);have D2:=(DL.below he).ty hc hh (by decide);have P2:Ag B ((((w5.setCell ⟨vb,i*4,none⟩ (.int .i64 x.id)).setCell ⟨vb,i*4+1,none⟩ (.string x.nm)).setCell ⟨vb,i*4+2,none⟩ (.bool x.fx)).setCell ⟨vb,i*4+3,none⟩ (.slice a2 n2 cap2)) (.agg #[.int .i64 size,.int .i64 next,.slice ea en ec,.slice (some ⟨vb,0,none⟩) vn vc,.slice ra rn rc,.slice la ln lc]) ⟨size,next,ex,vs.set i ⟨x.id,x.nm,x.fx,CV ⟨file,Bd q (Aj q) [⟨0,0,ln0-Aj q⟩]⟩ x.its⟩,rf,lt⟩:=⟨ea,en,ec,some ⟨vb,0,none⟩,vn,vc,ra,rn,rc,la,ln,lc,_,rfl,((h1.below ha).below he).ty hc hh (by decide),⟨R1,T1⟩,(h4.below hg).ty hc hh (by decide),(h5.below hg).ty hc hh (by decide),h6⟩;obtain⟨y0,y1,y2,y3,y4,y5⟩:=C2.six';obtain⟨q0,q1,q2,q3,q4,q5⟩:=D2.six';obtain⟨m0,m1,m2,m3,m4,m5⟩:=fz6 D2;have hH:=(hg.mono hBw).grown hc (by omega) (fun j e=>by cases e;exact hX);have qb:=hc.size;have FT0:Hid (FrV w ((((w5.setCell ⟨vb,i*4,none⟩ (.int .i64 x.id)).setCell ⟨vb,i*4+1,none⟩ (.string x.nm)).setCell ⟨vb,i*4+2,none⟩ (.bool x.fx)).setCell ⟨vb,i*4+3,none⟩ (.slice a2 n2 cap2))):=fun k c t hb hA=>(hb.below hg).ty hc hh hA;clear R1 T1 hc ht VB hh hy;go_wp2;obtain⟨W8,hF,W0,hz⟩:=Ba D2 (.int .i64 size) (.int .i64 next) (.slice ea en ec) (.slice (some ⟨vb,0,none⟩) vn vc) (.slice ra rn rc) (.slice la ln lc);have PF:=P2.tyP hz (aa_ D2);have B8:=hH.grown hz (by omega) (fun j e=>by cases e;omega);have FT:=fun (k:Nat) (c:Array Value) (t:TypeId) (hb:Blk w k c t) (hA:t≠80)=>(FT0.out k c t hb hA).offB hz (B:=w.heap.size) (fun j e=>by cases e;omega) hb.lt;rw[<-hF];clear hF;refine YW (ad_ rfl _ W8 (w.heap.size+2) _ _ _ _ _ rfl W0 underlying28 rfl (by kernel_rfl) rfl) rfl ?_;exact⟨⟨_,0,rfl,bm_ _ _ _ _ _ _ _ _ _ _ _ _ _ _,by rw[hS.out],fun _=>⟨by rw[hS.out];exact PF,by exact Zl (Zm Rp.sl.len) (by omega)⟩⟩,B8,FT⟩
theorem e8_ (B:Nat)(hB0:0<B)(v:Value)(p:Po)(o:Opr)(w:World)(h:Ag B w v p)(hNn:NnE v)(hBw:B<=w.heap.size)(hd:AJ p)(hp:Ap p=true)(hk:o.k=3)(i:Nat)(hso:Bb p.vs o.vol=some i)(hfx:∀ x:Vo,p.vs[i]?=some x->x.fx=false)(q:List Pt)(hpo:AH p.vs o.vol o.file=some q)(hl:0<=o.ln∧o.ln<=100)(hgt:¬ Aj q<o.ln):
  Calls prog 66 #[v,.agg #[.int .i64 o.k,.string o.vol,.string o.file,.string o.to,.string o.into,.int .i64 o.at',.int .i64 o.fr,.int .i64 o.ln,.string o.data]] w fun e w'=>(∃ v' c,e=.returned (.tuple #[v',.int .i64 c])∧Bn v'∧c=(Ak p o).1∧(c=0->Ag B w' v' (Ak p o).2∧(Ai p o).2.2.length<=1000))∧Below B w w'∧FrV w w':=by
 have hD:=h.at';obtain⟨ea,en,ec,va,vn,vc,ra,rn,rc,la,ln,lc,rows,rfl,h1,⟨h2,h3⟩,h4,h5,h6⟩:=h;have hL:=hd;obtain⟨z1,z2,z3,z4,z5,z6,z7,z8⟩:=hd;have hV:Bp B w va vn p.vs:=h3.rows.vs h2;rw[hV.len] at z3;obtain⟨size,next,ex,vs,rf,lt⟩:=p;obtain⟨k,vol,file,tt,into,at0,fr,ln0,data⟩:=o;simp only at h1 h2 h3 h4 h5 hV z4 z3 hD hp hk ⊢;have _:=hB0;have _:=hNn;have _:=hBw;have _:=hp;have hR:vs.length=vn:=hV.len;have hT:rows.length=vn:=h2.sl.len;simp only at hso hfx hpo hl hgt;subst hk;have hi:=ap_ hso;have hN:i<vn:=by omega
 have hx:vs[i]?=some vs[i]:=by simp[hi]
 have hZ:(0:Int)<=(i:Int):=by omega
 have hO:(i:Int)<vn:=by omega
 have hr:rows[i]?=some (rows[i]'(by omega)):=by simp[hT,hN]
 have VT:=h3.at' i _ _ hr hx;generalize rows[i]'(by omega)=r0 at *;generalize vs[i]=x at *;obtain⟨rid,rnm,rfx,pa0,pn0,pc0⟩:=r0;obtain⟨e1,e2,e3,irows,RI,TI⟩:=VT;simp only at e1 e2 e3 RI;subst e1 e2 e3;obtain⟨vb,rfl,hU,hW,hX⟩:=h2.addr (by omega);have hf:=hfx _ hx;clear hfx;have hI:Ai ⟨size,next,ex,vs,rf,lt⟩ ⟨3,vol,file,tt,into,at0,fr,ln0,data⟩=(0,ex,At [] (slp 0 ln0 0 q)):=by simp[Ai,hpo,hgt]
 have hS:Hid (Ak ⟨size,next,ex,vs,rf,lt⟩ ⟨3,vol,file,tt,into,at0,fr,ln0,data⟩=(0,⟨size,next,ex,vs.set i ⟨x.id,x.nm,x.fx,CV ⟨file,At [] (slp 0 ln0 0 q)⟩ x.its⟩,rf,lt⟩)):=by show _=_;simp[Ak,hso,hx,hf,hI]
 generalize hE:Ai ⟨size,next,ex,vs,rf,lt⟩ ⟨3,vol,file,tt,into,at0,fr,ln0,data⟩=PS at *;replace hE:Hid (Ai ⟨size,next,ex,vs,rf,lt⟩ ⟨3,vol,file,tt,into,at0,fr,ln0,data⟩=PS):=hE;generalize Ak ⟨size,next,ex,vs,rf,lt⟩ ⟨3,vol,file,tt,into,at0,fr,ln0,data⟩=R at *;have hM:Hid (x.fx=false):=hf;clear hf;go_enter func66,ntmps66
 go_wp2_with fail
 refine (ak_ B size next ea en ec (some ⟨vb,0,none⟩) vn vc ra rn rc la ln lc vs vol _ (hV.below (by go_grown)) z3).mono ?_;rintro e w1 ⟨rfl,hC⟩;obtain⟨C,O,D,hm,h8⟩:=bx3 hC;clear hC;rw[hso];simp only[BJ];obtain⟨c0,c1,c2,c3,c4,c5⟩:=C.six';obtain⟨o0,o1,o2,o3,o4,o5,o6,o7,o8⟩:=ce9 O;obtain⟨x0,x1,x2,x3,x4,x5⟩:=D.six';obtain⟨f0,f1,f2,f3,f4,f5⟩:=fz6 D;have RA:=h2.below hm;have e2:w1.cell? ⟨vb,i*4+2,none⟩=some (.bool x.fx):=RA.cellAt (j:=2) hr rfl;rw[hM.out] at e2
 go_wp2_with fail
 refine (aH_ B _ ⟨size,next,ex,vs,rf,lt⟩ vol file _ (hD.below hm) hL).mono ?_;rintro e wA ⟨hq,ho⟩;obtain⟨qa,qn,qc,rfl,hQ⟩:=hq.uni;clear hq;have hn:Ae ((AH vs vol file).getD [])=true:=bH_ (p:=⟨size,next,ex,vs,rf,lt⟩) hp;simp only at hQ ⊢;clear c0 c1 c2 c3 c4 c5 o0 o1 o2 o3 o4 o5 o6 o7 o8 x0 x1 x2 x3 x4 x5 f0 f1 f2 f3 f4 f5;have C':=C.below ho;have D':=D.below ho;have O':=O.below ho;have hw:=Aa hm ho;have qd:=ho.size;clear C D O e2 RA;obtain⟨c0,c1,c2,c3,c4,c5⟩:=C'.six';obtain⟨o0,o1,o2,o3,o4,o5,o6,o7,o8⟩:=ce9 O';obtain⟨x0,x1,x2,x3,x4,x5⟩:=D'.six';obtain⟨f0,f1,f2,f3,f4,f5⟩:=fz6 D';rw[hpo] at hQ hn ⊢;simp only[Yw,Option.isSome_some] at hQ hn ⊢;have hA:qn<=16:=by rw[<-hQ.len];exact (ae_ hn).1
 have hs:∀ k,0<=Aj (q.take k)∧Aj (q.take k)<=100:=fun k=>by have h1:=a6_ (ae_ hn).2.1 k;have h2:=(ae_ hn).2.2;omega
 have h7:0<=Aj q∧Aj q<=100:=by have:=hs q.length;rwa [List.take_length] at this
 go_wp2_with fail
 refine (aZ_ qa qn qc q _ hQ (by omega) hs).mono ?_;rintro e wB ⟨rfl,rfl⟩
 go_wp2_with fail
 refine (ba_ qa qn qc q 0 ln0 _ (hQ.below (by go_grown)) hA (hq_ hn) (by omega) (by omega) hl.1 (by omega)).mono ?_;rintro e wL ⟨⟨pa1,pn1,pc1,rfl,h0,Rp⟩,hH⟩;have hj:Below wB.heap.size wB wL:=hH;have CL:=C'.below hj;have DL:=D'.below hj;have ha:=Aa hw hj;have hJ:B<=wB.heap.size:=by omega
 clear c0 c1 c2 c3 c4 c5 o0 o1 o2 o3 o4 o5 o6 o7 o8 x0 x1 x2 x3 x4 x5 f0 f1 f2 f3 f4 f5;have RL:=h2.below ha;have e0:wL.cell? ⟨vb,i*4,none⟩=some (.int .i64 x.id):=RL.cellAt (j:=0) hr rfl;have e1:wL.cell? ⟨vb,i*4+1,none⟩=some (.string x.nm):=RL.cellAt (j:=1) hr rfl;have e2:wL.cell? ⟨vb,i*4+2,none⟩=some (.bool x.fx):=RL.cellAt (j:=2) hr rfl;have e3:wL.cell? ⟨vb,i*4+3,none⟩=some (.slice pa0 pn0 pc0):=RL.cellAt (j:=3) hr rfl;have k3:wL.cell? ⟨w.heap.size,3,none⟩=some (.slice (some ⟨vb,0,none⟩) vn vc):=CL.cell 3;have qe:=ha.size;have hP:pn0<=4194304:=by have:=(z4 x (Zc hx)).2.1;rw[(TI.rows.its RI).len] at this;exact this
 go_wp2_with fail
 have hy:∀ u,Below wL.heap.size wL u->(fun u=>u.cell? ⟨w.heap.size,3,none⟩=some (.slice (some ⟨vb,0,none⟩) vn vc)∧u.cell? ⟨vb,i*4,none⟩=some (.int .i64 x.id)∧u.cell? ⟨vb,i*4+1,none⟩=some (.string x.nm)∧u.cell? ⟨vb,i*4+2,none⟩=some (.bool x.fx)∧u.cell? ⟨vb,i*4+3,none⟩=some (.slice pa0 pn0 pc0)) u:=fun u hu=>⟨Ab hu k3,Ab hu e0,Ab hu e1,Ab hu e2,Ab hu e3⟩;have hY:=hy wL.drew ((Yg _ _).drew);refine ar_ (S:=(fun u=>u.cell? ⟨w.heap.size,3,none⟩=some (.slice (some ⟨vb,0,none⟩) vn vc)∧u.cell? ⟨vb,i*4,none⟩=some (.int .i64 x.id)∧u.cell? ⟨vb,i*4+1,none⟩=some (.string x.nm)∧u.cell? ⟨vb,i*4+2,none⟩=some (.bool x.fx)∧u.cell? ⟨vb,i*4+3,none⟩=some (.slice pa0 pn0 pc0))) 12 (by kernel_rfl) (by kernel_rfl) ?_;refine tk 0 ?_;refine tk 1 ?_;refine tk 2 ?_;refine tk 3 ?_;refine tk 4 ?_;refine tk 5 ?_;refine tk 6 ?_;refine tk 7 ?_;refine tk 8 ?_;refine tk 9 ?_;refine Aq (i:=10) (by kernel_rfl) rfl (fun K hK=>?_);go_simp;refine (cB_ B x.id x.nm x.fx x.its pa0 pn0 pc0 irows file pa1 pn1 pc1 (At [] (slp 0 ln0 0 q)) _ ((RI.below ha).below ((Yg _ _).drew)) ((TI.below ha).below ((Yg _ _).drew)) ((Rp.mono hJ).below ((Yg _ _).drew)) hP).mono ?_;rintro e w5 ⟨⟨a2,n2,cap2,nrows,rfl,RN,TN⟩,hv⟩;have he:Below wL.heap.size wL w5:=Aa ((Yg _ _).drew) hv;have qb:=he.size;dsimp only;refine hK.out _ _ (hy _ he) (fun hHeld=>?_);clear hK K
 try simp only[Act.put,lsA,lsB,lsC]
 refine tk 11 ?_;refine wpAnyH_done (by kernel_rfl) ?_ _;refine lastL rfl ?_;have hg:=Aa ha he;have ht:=RL.below he;obtain⟨vcs,VB⟩:=ht.blkAt;have z0:=VB.frozen (i*4);have z1':=VB.frozen (i*4+1);have z2':=VB.frozen (i*4+2);have z3':=VB.frozen (i*4+3);have v0:=Ab he e0;have v1:=Ab he e1;have v2:=Ab he e2;have v3:=Ab he e3;have hc:=Gj w5 vb (i*4) (.int .i64 x.id) (.string x.nm) (.bool x.fx) (.slice a2 n2 cap2);have hh:BF w5 (some vb) 80:=aa_ VB;have R1:=ht.set4V hr ⟨x.id,x.nm,x.fx,a2,n2,cap2⟩;simp only at R1;have T1:=((h3.below hg).ty hc hh (by decide) (by decide)).set i (show CE B _ ⟨x.id,x.nm,x.fx,a2,n2,cap2⟩ ⟨x.id,x.nm,x.fx,CV ⟨file,(At [] (slp 0 ln0 0 q))⟩ x.its⟩ from ⟨rfl,rfl,rfl,nrows,(RN.ty hc hh (by decide)).mono (by simp only[World.size_drew] at *;omega),TN.ty hc hh (by decide)⟩);have C2:=(CL.below he).ty hc hh (by decide);have D2:=(DL.below he).ty hc hh (by decide);have P2:Ag B ((((w5.setCell ⟨vb,i*4,none⟩ (.int .i64 x.id)).setCell ⟨vb,i*4+1,none⟩ (.string x.nm)).setCell ⟨vb,i*4+2,none⟩ (.bool x.fx)).setCell ⟨vb,i*4+3,none⟩ (.slice a2 n2 cap2)) (.agg #[.int .i64 size,.int .i64 next,.slice ea en ec,.slice (some ⟨vb,0,none⟩) vn vc,.slice ra rn rc,.slice la ln lc]) ⟨size,next,ex,vs.set i ⟨x.id,x.nm,x.fx,CV ⟨file,At [] (slp 0 ln0 0 q)⟩ x.its⟩,rf,lt⟩:=⟨ea,en,ec,some ⟨vb,0,none⟩,vn,vc,ra,rn,rc,la,ln,lc,_,rfl,((h1.below ha).below he).ty hc hh (by decide),⟨R1,T1⟩,(h4.below hg).ty hc hh (by decide),(h5.below hg).ty hc hh (by decide),h6⟩;obtain⟨y0,y1,y2,y3,y4,y5⟩:=C2.six';obtain⟨q0,q1,q2,q3,q4,q5⟩:=D2.six';obtain⟨m0,m1,m2,m3,m4,m5⟩:=fz6 D2;have hG:=(hg.mono hBw).grown hc (by omega) (fun j e=>by cases e;exact hU);have h9:=hc.size;have FT0:Hid (FrV w ((((w5.setCell ⟨vb,i*4,none⟩ (.int .i64 x.id)).setCell ⟨vb,i*4+1,none⟩ (.string x.nm)).setCell ⟨vb,i*4+2,none⟩ (.bool x.fx)).setCell ⟨vb,i*4+3,none⟩ (.slice a2 n2 cap2))):=fun k c t hb hB=>(hb.below hg).ty hc hh hB;clear R1 T1 hc ht VB hh hy;go_wp2;obtain⟨W8,hF,W0,hz⟩:=Ba D2 (.int .i64 size) (.int .i64 next) (.slice ea en ec) (.slice (some ⟨vb,0,none⟩) vn vc) (.slice ra rn rc) (.slice la ln lc);have PF:=P2.tyP hz (aa_ D2);have B8:=hG.grown hz (by omega) (fun j e=>by cases e;omega);have FT:=fun (k:Nat) (c:Array Value) (t:TypeId) (hb:Blk w k c t) (hB:t≠80)=>(FT0.out k c t hb hB).offB hz (B:=w.heap.size) (fun j e=>by cases e;omega) hb.lt;rw[<-hF];clear hF;refine YW (ad_ rfl _ W8 (w.heap.size+2) _ _ _ _ _ rfl W0 underlying28 rfl (by kernel_rfl) rfl) rfl ?_;exact⟨⟨_,0,rfl,bm_ _ _ _ _ _ _ _ _ _ _ _ _ _ _,by rw[hS.out],fun _=>⟨by rw[hS.out];exact PF,by exact Zl (Zm Rp.sl.len) (by omega)⟩⟩,B8,FT⟩
end
section
open Go Go.RowKit
variable{d:ByteArray}{size:Int}
theorem hZ_:∀ (a b:List Ex),HD (a++b)=HD a+HD b
 |[],b=>by simp[HD]
 |e::r,b=>by simp only[YF,HD,hZ_ r b];omega
theorem h0_ (hd:Aw d=true):∀ {l:List Ex} {next:Int} (k j:Nat) (x:Int),xgo size next l=true->CU size d.size k next l=some (j,x)->
  k<=j∧next<=x∧j-k<=l.length∧xgo size next (l.take (j-k)++⟨x,d⟩::l.drop (j-k))=true∧DZ x (l.take (j-k)++⟨x,d⟩::l.drop (j-k))=l
 |[],next,k,j,x,h,hp=>by
  rw[CU] at hp;split at hp
  ·rename_i hm;simp only[Zo,Prod.mk.injEq] at hp;obtain⟨rfl,rfl⟩:=hp;refine⟨Zd _,by omega,by simp,?_,?_⟩
   ·simp[xgo,hd];omega
   ·simp[DZ]
  ·cases hp
 |e::r,next,k,j,x,h,hp=>by
  rw[CU] at hp;have h0:=h;simp only[xgo,Zf,ZU] at h;obtain⟨⟨⟨h1,h2⟩,h3⟩,h4⟩:=h;have hb:=bl_ h1;have hc:=bl_ hd;split at hp
  ·rename_i hm;simp only[Zo,Prod.mk.injEq] at hp;obtain⟨rfl,rfl⟩:=hp
   have hx:xgo size (next+d.size) (e::r)=true:=by
    simp only[xgo,Zf,ZU];exact⟨⟨⟨h1,by omega⟩,h3⟩,h4⟩
   refine⟨Zd _,by omega,by simp,?_,?_⟩
   ·rw[Nat.sub_self,Yx,YC,ZM,xgo];simp only[Zf,ZU];exact⟨⟨⟨hd,by omega⟩,by omega⟩,hx⟩
   ·rw[Nat.sub_self,Yx,YC,ZM];have e1:DZ next (⟨next,d⟩::e::r)=DZ next (e::r):=by simp[DZ]
    rw[e1];exact fe_ hx (by omega)
  ·obtain⟨q1,q2,q3,q4,q5⟩:=h0_ hd (k+1) j x h4 hp;have ej:j-k=(j-(k+1))+1:=by omega
   rw[ej];refine⟨by omega,by omega,by simp;omega,?_,?_⟩
   ·rw[ZP,ZR,YF,xgo];simp only[Zf,ZU];exact⟨⟨⟨h1,h2⟩,h3⟩,q4⟩
   ·rw[ZP,ZR,YF];have ha:(e.a==x)=false:=ZV.2 (by omega);have e1:∀ m:List Ex,DZ x (e::m)=e::DZ x m:=fun m=>by simp[DZ,ha]
    rw[e1,q5]
theorem jC_ {x:Int}{l L:List Ex}(h:CC size l d=some (L,x)):
  Am size l=true∧Aw d=true∧Am size L=true∧L.length=l.length+1∧l.length<60∧Jh size L x=some l∧HD L=HD l+d.size∧∀ e∈L,e∈l∨e=⟨x,d⟩:=by
 rw[<-hE_] at h;unfold BN at h;split at h
 ·rename_i hc;obtain⟨hf,hd,hg⟩:=hc;obtain⟨h1,h2,h3,h4⟩:=cu_ hf
  cases hp:CU size d.size 0 1 l with
  |none=>rw[hp] at h;cases h
  |some y=>
   obtain⟨j,x'⟩:=y;rw[hp] at h;simp only[Option.map_some,Zo,Prod.mk.injEq] at h;obtain⟨rfl,rfl⟩:=h;obtain⟨q1,q2,q3,q4,q5⟩:=h0_ hd 0 j x' h4 hp;rw[Nat.sub_zero] at q3 q4 q5;have eL:l.take j++[⟨x',d⟩]++l.drop j=l.take j++⟨x',d⟩::l.drop j:=by simp
   rw[eL];have hb:(l.take j++⟨x',d⟩::l.drop j:List Ex).length=l.length+1:=by simp;omega
   have ha:Am size (l.take j++⟨x',d⟩::l.drop j)=true:=by
    simp only[Am,Zf,ZU];exact⟨⟨⟨h1,h2⟩,by omega⟩,q4⟩
   refine⟨hf,hd,ha,hb,by omega,?_,?_,?_⟩
   ·unfold Jh;rw[if_pos ⟨ha,by rw[q5];omega⟩,q5]
   ·rw[hZ_]
    conv=>rhs;rw[<-YM j l,hZ_]
    simp only[HD];omega
   ·intro e he;rcases Zs.1 he with he | he
    ·exact .inl (ZX he)
    ·rcases Zn.1 he with he | he
     ·exact .inr he
     ·exact .inl (List.mem_of_mem_drop he)
 ·cases h
end
section
open Go Go.RowKit Go.BigFrame Tryz
variable{α:Type}{s t:Int}{l:List Pt}{b m2 m3 m4 m5 n n2 n3 n4 n5:Nat}{c2 c3 c4 c5:Option Addr}{ty:TypeId}{w:World}
theorem qb_ {o:Nat}(h:BI w (some ⟨b,o,none⟩) n l)(hl:l≠[]):¬ Blk w b #[.int .i64 s,.int .i64 t,.slice c2 n2 m2,.slice c3 n3 m3,.slice c4 n4 m4,.slice c5 n5 m5] ty:=by
 intro C
 cases l with
 |nil=>exact hl rfl
 |cons p r=>
  obtain⟨b',o',e,hc⟩:=h.cell 0 p rfl
  cases e
  have q2:=hc 2 (.int .i64 p.n) rfl;rw[C.cell,Nat.zero_mul,Nat.add_zero] at q2
  match o,q2 with
  |0,q2=>simp at q2
  |1,q2=>simp at q2
  |2,q2=>simp at q2
  |3,q2=>simp at q2
  |o+4,q2=>simp at q2
theorem kV_ {qa:Option Addr}(h:BI w qa n l)(C:Blk w b #[.int .i64 s,.int .i64 t,.slice c2 n2 m2,.slice c3 n3 m3,.slice c4 n4 m4,.slice c5 n5 m5] ty)(j:Nat)(v:Value):BI (w.setCell ⟨b,j,none⟩ v) qa n l:=by
 by_cases hl:l=[]
 ·subst hl;exact⟨h.len,fun i x hx=>by simp at hx⟩
 ·refine h.grown (CS w b j v) (fun ad e hb=>?_);subst e;obtain⟨b',o',e,_⟩:=h.cell 0 _ (ZI (List.length_pos_iff.2 hl))
  cases e
  simp only at hb;subst hb;exact qb_ h hl C
theorem Ad.addrN {cs:α->List Value}{sz:Nat}{t:TypeId}{B cap:Nat}{a:Option Addr}{l:List α}(h:Ad cs sz t w B a n cap l)(hn:a≠none):∃ b,a=some ⟨b,0,none⟩∧n<=cap:=by
 rcases h.own with⟨h0,_⟩ | ⟨b,h1,_,h3,_⟩
 ·exact absurd h0 hn
 ·exact⟨b,h1,h3⟩
theorem gu_ (B:Nat)(hB0:0<B)(v:Value)(p:Po)(o:Opr)(w:World)(h:Ag B w v p)(hNn:NnE v)(hBw:B<=w.heap.size)(hd:AJ p)(hp:Ap p=true)(hk:o.k=2)(i:Nat)(hso:Bb p.vs o.vol=some i)(hfx:∀ x:Vo,p.vs[i]?=some x->x.fx=false)(hda:Aw o.data=true)(hpl:CC p.size p.ex o.data=none):
  Calls prog 66 #[v,.agg #[.int .i64 o.k,.string o.vol,.string o.file,.string o.to,.string o.into,.int .i64 o.at',.int .i64 o.fr,.int .i64 o.ln,.string o.data]] w fun e w'=>(∃ v' c,e=.returned (.tuple #[v',.int .i64 c])∧Bn v'∧c=(Ak p o).1∧(c=0->Ag B w' v' (Ak p o).2∧(Ai p o).2.2.length<=1000))∧Below B w w'∧FrV w w':=by
 have hl:=h.at';obtain⟨ea,en,ec,va,vn,vc,ra,rn,rc,la,ln,lc,rows,rfl,h1,⟨h2,h3⟩,h4,h5,h6⟩:=h;have hs:=hd;obtain⟨z1,z2,z3,z4,z5,z6,z7,z8⟩:=hd;have hV:Bp B w va vn p.vs:=h3.rows.vs h2;rw[hV.len] at z3;obtain⟨size,next,ex,vs,rf,lt⟩:=p;obtain⟨k,vol,file,tt,into,at0,fr,ln0,data⟩:=o;simp only at h1 h2 h3 h4 h5 hV z4 z3 hl hp hk ⊢;have _:=hB0;have _:=hNn;have _:=hBw;have _:=hp;have hA:ea≠none:=hNn _ _ _ _ _ _ _ _ rfl;obtain⟨eb,rfl,ht⟩:=h1.addrN hA;have hz:vs.length=vn:=hV.len;have hB:rows.length=vn:=h2.sl.len;simp only at hso hfx hda hpl;subst hk;have hi:=ap_ hso;have hw:i<vn:=by omega
 have hx:vs[i]?=some vs[i]:=by simp[hi]
 have hE:(0:Int)<=(i:Int):=by omega
 have hy:(i:Int)<vn:=by omega
 have hr:rows[i]?=some (rows[i]'(by omega)):=by simp[hB,hw]
 have VT:=h3.at' i _ _ hr hx;generalize rows[i]'(by omega)=r0 at *;generalize vs[i]=x at *;obtain⟨rid,rnm,rfx,pa0,pn0,pc0⟩:=r0;obtain⟨e1,e2,e3,irows,RI,TI⟩:=VT;simp only at e1 e2 e3 RI;subst e1 e2 e3;obtain⟨vb,rfl,hJ,hC,hD⟩:=h2.addr (by omega);have hf:=hfx _ hx;clear hfx;have ho:Ai ⟨size,next,ex,vs,rf,lt⟩ ⟨2,vol,file,tt,into,at0,fr,ln0,data⟩=(5,ex,[]):=by simp[Ai,hpl]
 have hS:Hid (Ak ⟨size,next,ex,vs,rf,lt⟩ ⟨2,vol,file,tt,into,at0,fr,ln0,data⟩=(5,⟨size,next,ex,vs,rf,lt⟩)):=by show _=_;simp[Ak,hso,hx,hf,ho]
 generalize hm:Ai ⟨size,next,ex,vs,rf,lt⟩ ⟨2,vol,file,tt,into,at0,fr,ln0,data⟩=PS at *;replace hm:Hid (Ai ⟨size,next,ex,vs,rf,lt⟩ ⟨2,vol,file,tt,into,at0,fr,ln0,data⟩=PS):=hm;generalize Ak ⟨size,next,ex,vs,rf,lt⟩ ⟨2,vol,file,tt,into,at0,fr,ln0,data⟩=R at *;have hu:Hid (x.fx=false):=hf;clear hf;go_enter func66,ntmps66
 go_wp2_with fail
 refine (ak_ B size next (some ⟨eb,0,none⟩) en ec (some ⟨vb,0,none⟩) vn vc ra rn rc la ln lc vs vol _ (hV.below (by go_grown)) z3).mono ?_;rintro e w1 ⟨rfl,hj⟩;obtain⟨C,O,D,hc,hG⟩:=bx3 hj;clear hj;rw[hso];simp only[BJ];obtain⟨c0,c1,c2,c3,c4,c5⟩:=C.six';obtain⟨o0,o1,o2,o3,o4,o5,o6,o7,o8⟩:=ce9 O;obtain⟨x0,x1,x2,x3,x4,x5⟩:=D.six';obtain⟨f0,f1,f2,f3,f4,f5⟩:=fz6 D;have RA:=h2.below hc;have e2:w1.cell? ⟨vb,i*4+2,none⟩=some (.bool x.fx):=RA.cellAt (j:=2) hr rfl;rw[hu.out] at e2
 go_wp2_with fail
 refine (aH_ B _ ⟨size,next,ex,vs,rf,lt⟩ vol file _ (hl.below hc) hs).mono ?_;rintro e wA ⟨hb,he⟩;obtain⟨qa,qn,qc,rfl,hQ⟩:=hb.uni;clear hb;have hF:Ae ((AH vs vol file).getD [])=true:=bH_ (p:=⟨size,next,ex,vs,rf,lt⟩) hp;simp only at hQ ⊢;clear c0 c1 c2 c3 c4 c5 o0 o1 o2 o3 o4 o5 o6 o7 o8 x0 x1 x2 x3 x4 x5 f0 f1 f2 f3 f4 f5;have C':=C.below he;have D':=D.below he;have O':=O.below he;have hg:=Aa hc he;have hH:=he.size;clear C D O e2 RA;obtain⟨c0,c1,c2,c3,c4,c5⟩:=C'.six';obtain⟨o0,o1,o2,o3,o4,o5,o6,o7,o8⟩:=ce9 O';obtain⟨x0,x1,x2,x3,x4,x5⟩:=D'.six';obtain⟨f0,f1,f2,f3,f4,f5⟩:=fz6 D';have hq:data.size<=20:=by simp[Aw] at hda;omega
 go_wp2_with fail
 refine (gK_ size eb 0 en ec ex data _ (h1.sl.below hg) z2 (by rw[<-h1.sl.len];exact z1) ht (by omega)).mono ?_;rintro e wP ⟨hb,ha⟩;rw[hpl] at hb;obtain rfl:=hb;have D'':=D'.below ha;have C'':=C'.below ha;have hh:=Aa hg ha;have hI:=ha.size;clear c0 c1 c2 c3 c4 c5 o0 o1 o2 o3 o4 o5 o6 o7 o8 x0 x1 x2 x3 x4 x5 f0 f1 f2 f3 f4 f5;obtain⟨c0,c1,c2,c3,c4,c5⟩:=C''.six';have o0:wP.cell? ⟨w.heap.size+1,0,none⟩=some (.int .i64 2):=(O'.below ha).cell 0;have o1:wP.cell? ⟨w.heap.size+1,1,none⟩=some (.string vol):=(O'.below ha).cell 1;have o2:wP.cell? ⟨w.heap.size+1,2,none⟩=some (.string file):=(O'.below ha).cell 2;have o3:wP.cell? ⟨w.heap.size+1,3,none⟩=some (.string tt):=(O'.below ha).cell 3;have o4:wP.cell? ⟨w.heap.size+1,4,none⟩=some (.string into):=(O'.below ha).cell 4;have o5:wP.cell? ⟨w.heap.size+1,5,none⟩=some (.int .i64 at0):=(O'.below ha).cell 5;have o6:wP.cell? ⟨w.heap.size+1,6,none⟩=some (.int .i64 fr):=(O'.below ha).cell 6;have o7:wP.cell? ⟨w.heap.size+1,7,none⟩=some (.int .i64 ln0):=(O'.below ha).cell 7;have o8:wP.cell? ⟨w.heap.size+1,8,none⟩=some (.string data):=(O'.below ha).cell 8;obtain⟨x0,x1,x2,x3,x4,x5⟩:=D''.six';obtain⟨f0,f1,f2,f3,f4,f5⟩:=fz6 D'';go_wp2;obtain⟨W8,hn,W0,hv⟩:=Ba D'' (.int .i64 size) (.int .i64 next) (.slice (some ⟨eb,0,none⟩) en ec) (.slice (some ⟨vb,0,none⟩) vn vc) (.slice ra rn rc) (.slice la ln lc);have B8:=hh.grown hv hh.size (fun j e=>by cases e;omega);rw[<-hn];clear hn;refine YW (ad_ rfl _ W8 (w.heap.size+2) _ _ _ _ _ rfl W0 underlying28 rfl (by kernel_rfl) rfl) rfl ?_;exact⟨⟨_,5,rfl,bm_ _ _ _ _ _ _ _ _ _ _ _ _ _ _,by rw[hS.out],fun h=>absurd h (by omega)⟩,B8.mono hBw,FrV.of B8⟩
theorem f7_ (B:Nat)(hB0:0<B)(v:Value)(p:Po)(o:Opr)(w:World)(h:Ag B w v p)(hNn:NnE v)(hBw:B<=w.heap.size)(hd:AJ p)(hp:Ap p=true)(hk:o.k=2)(i:Nat)(hso:Bb p.vs o.vol=some i)(hfx:∀ x:Vo,p.vs[i]?=some x->x.fx=false)(hda:Aw o.data=true)(ha:0<=o.at'∧o.at'<=100)(L:List Ex)(a:Int)(hab:1<=a∧a<=400)(hpl:CC p.size p.ex o.data=some (L,a)):
  Calls prog 66 #[v,.agg #[.int .i64 o.k,.string o.vol,.string o.file,.string o.to,.string o.into,.int .i64 o.at',.int .i64 o.fr,.int .i64 o.ln,.string o.data]] w fun e w'=>(∃ v' c,e=.returned (.tuple #[v',.int .i64 c])∧Bn v'∧c=(Ak p o).1∧(c=0->Ag B w' v' (Ak p o).2∧(Ai p o).2.2.length<=1000))∧Below B w w'∧FrV w w':=by
 have hF:=h.at';obtain⟨ea,en,ec,va,vn,vc,ra,rn,rc,la,ln,lc,rows,rfl,h1,⟨h2,h3⟩,h4,h5,h6⟩:=h;have hR:=hd;obtain⟨z1,z2,z3,z4,z5,z6,z7,z8⟩:=hd;have hV:Bp B w va vn p.vs:=h3.rows.vs h2;rw[hV.len] at z3;obtain⟨size,next,ex,vs,rf,lt⟩:=p;obtain⟨k,vol,file,tt,into,at0,fr,ln0,data⟩:=o;simp only at h1 h2 h3 h4 h5 hV z4 z3 hF hp hk ⊢;have _:=hB0;have _:=hNn;have _:=hBw;have _:=hp;have hw:ea≠none:=hNn _ _ _ _ _ _ _ _ rfl;obtain⟨eb,rfl,hT⟩:=h1.addrN hw;have hZ:vs.length=vn:=hV.len;have h8:rows.length=vn:=h2.sl.len;simp only at hso hfx hda ha hpl;subst hk;have hi:=ap_ hso;have hW:i<vn:=by omega
 have hx:vs[i]?=some vs[i]:=by simp[hi]
 have qg:(0:Int)<=(i:Int):=by omega
 have hX:(i:Int)<vn:=by omega
 have hr:rows[i]?=some (rows[i]'(by omega)):=by simp[h8,hW]
 have VT:=h3.at' i _ _ hr hx;generalize rows[i]'(by omega)=r0 at *;generalize vs[i]=x at *;obtain⟨rid,rnm,rfx,pa0,pn0,pc0⟩:=r0;obtain⟨e1,e2,e3,irows,RI,TI⟩:=VT;simp only at e1 e2 e3 RI;subst e1 e2 e3;obtain⟨vb,rfl,h9,qb,qd⟩:=h2.addr (by omega);have hf:=hfx _ hx;clear hfx;have hN:Ai ⟨size,next,ex,vs,rf,lt⟩ ⟨2,vol,file,tt,into,at0,fr,ln0,data⟩=(0,L,Bd ((AH vs vol file).getD []) at0 [⟨a,0,data.size⟩]):=by simp[Ai,hpl]
 have hS:Hid (Ak ⟨size,next,ex,vs,rf,lt⟩ ⟨2,vol,file,tt,into,at0,fr,ln0,data⟩=(0,⟨size,next,L,vs.set i ⟨x.id,x.nm,x.fx,CV ⟨file,Bd ((AH vs vol file).getD []) at0 [⟨a,0,data.size⟩]⟩ x.its⟩,rf,lt⟩)):=by show _=_;simp[Ak,hso,hx,hf,hN]
 generalize hG:Ai ⟨size,next,ex,vs,rf,lt⟩ ⟨2,vol,file,tt,into,at0,fr,ln0,data⟩=PS at *;replace hG:Hid (Ai ⟨size,next,ex,vs,rf,lt⟩ ⟨2,vol,file,tt,into,at0,fr,ln0,data⟩=PS):=hG;generalize Ak ⟨size,next,ex,vs,rf,lt⟩ ⟨2,vol,file,tt,into,at0,fr,ln0,data⟩=R at *;have hU:Hid (x.fx=false):=hf;clear hf;go_enter func66,ntmps66
 go_wp2_with fail
 refine (ak_ B size next (some ⟨eb,0,none⟩) en ec (some ⟨vb,0,none⟩) vn vc ra rn rc la ln lc vs vol _ (hV.below (by go_grown)) z3).mono ?_;rintro e w1 ⟨rfl,hE⟩;obtain⟨C,O,D,hn,qi⟩:=bx3 hE;clear hE;rw[hso];simp only[BJ];obtain⟨c0,c1,c2,c3,c4,c5⟩:=C.six';obtain⟨o0,o1,o2,o3,o4,o5,o6,o7,o8⟩:=ce9 O;obtain⟨x0,x1,x2,x3,x4,x5⟩:=D.six';obtain⟨f0,f1,f2,f3,f4,f5⟩:=fz6 D;have RA:=h2.below hn;have e2:w1.cell? ⟨vb,i*4+2,none⟩=some (.bool x.fx):=RA.cellAt (j:=2) hr rfl;rw[hU.out] at e2
 go_wp2_with fail
 refine (aH_ B _ ⟨size,next,ex,vs,rf,lt⟩ vol file _ (hF.below hn) hR).mono ?_;rintro e wA ⟨hj,hq⟩;obtain⟨qa,qn,qc,rfl,hQ⟩:=hj.uni;clear hj;have h7:Ae ((AH vs vol file).getD [])=true:=bH_ (p:=⟨size,next,ex,vs,rf,lt⟩) hp;simp only at hQ ⊢;clear c0 c1 c2 c3 c4 c5 o0 o1 o2 o3 o4 o5 o6 o7 o8 x0 x1 x2 x3 x4 x5 f0 f1 f2 f3 f4 f5;have C':=C.below hq;have D':=D.below hq;have O':=O.below hq;have hs:=Aa hn hq;have ql:=hq.size;clear C D O e2 RA;obtain⟨c0,c1,c2,c3,c4,c5⟩:=C'.six';obtain⟨o0,o1,o2,o3,o4,o5,o6,o7,o8⟩:=ce9 O';obtain⟨x0,x1,x2,x3,x4,x5⟩:=D'.six';obtain⟨f0,f1,f2,f3,f4,f5⟩:=fz6 D';generalize (AH vs vol file).getD []=Q at *;have hP:data.size<=20:=by simp[Aw] at hda;omega
 go_wp2_with fail
 refine (gK_ size eb 0 en ec ex data _ (h1.sl.below hs) z2 (by rw[<-h1.sl.len];exact z1) hT (by omega)).mono ?_;rintro e wP ⟨hj,ho⟩;rw[hpl] at hj;obtain⟨xa,xn,xc,rfl,RX⟩:=hj;have qf:=bl_ hda
 have hC:Ae [⟨a,0,data.size⟩]=true:=by
  have h0:(a==0)=false:=ZV.2 (by omega);simp[Ae,pgo,Ao,h0];omega
 have CP:=C'.below ho;have DP:=D'.below ho;have OP:=O'.below ho;have ht:=Aa hs ho;have qp:=ho.size;clear c0 c1 c2 c3 c4 c5 o0 o1 o2 o3 o4 o5 o6 o7 o8 x0 x1 x2 x3 x4 x5 f0 f1 f2 f3 f4 f5;have g2:=CP.frozen 2;have C3:Blk (wP.setCell ⟨w.heap.size,2,none⟩ (.slice xa xn xc)) w.heap.size #[.int .i64 size,.int .i64 next,.slice xa xn xc,.slice (some ⟨vb,0,none⟩) vn vc,.slice ra rn rc,.slice la ln lc] 28:=by simpa using CP.set 2 (.slice xa xn xc)
 have hv:=CS wP w.heap.size 2 (.slice xa xn xc);have D3:Blk (wP.setCell ⟨w.heap.size,2,none⟩ (.slice xa xn xc)) (w.heap.size+2) _ _:=(hv.block _ DP.lt (by simp only[ne_eq,Zo];omega)).trans DP;have O3:Blk (wP.setCell ⟨w.heap.size,2,none⟩ (.slice xa xn xc)) (w.heap.size+1) _ _:=(hv.block _ OP.lt (by simp only[ne_eq,Zo];omega)).trans OP;have hD:=RX.ty hv (aa_ CP) (by decide);have hH:=kV_ (hQ.below ho) CP 2 (.slice xa xn xc);have hL:=ht.grown hv ht.size (fun j e=>by cases e;exact Zd _);have qm:(wP.setCell ⟨w.heap.size,2,none⟩ (.slice xa xn xc)).heap.size=wP.heap.size:=by simp
 obtain⟨c0,c1,c2,c3,c4,c5⟩:=CP.six';have o5:wP.cell? ⟨w.heap.size+1,5,none⟩=some (.int .i64 at0):=OP.cell 5;have o8:wP.cell? ⟨w.heap.size+1,8,none⟩=some (.string data):=OP.cell 8
 go_wp2_with fail
 refine (cM_ qa qn qc Q at0 _ 1 1 [⟨a,0,data.size⟩] _ (hH.below (by go_grown)) (ck_ _ ⟨a,0,data.size⟩ _ _ (by simp)) h7 hC ha.1 ha.2).mono ?_;rintro e wL ⟨⟨pa1,pn1,pc1,rfl,qh,Rp⟩,hM⟩;have hm:Below (wP.setCell ⟨w.heap.size,2,none⟩ (.slice xa xn xc)).heap.size (wP.setCell ⟨w.heap.size,2,none⟩ (.slice xa xn xc)) wL:=Aa (by go_grown) hM;have CL:=C3.below hm;have DL:=D3.below hm;have hh:=Aa hL hm;have REL:=(hD.below hm).mono (show B<=wA.heap.size by omega);have hO:B<=((wP.setCell ⟨w.heap.size,2,none⟩ (.slice xa xn xc)).alloc (.cells #[.int .i64 a,.int .i64 0,.int .i64 data.size] 124)).heap.size:=by simp;omega
 clear c0 c1 c2 c3 c4 c5 o5 o8 CP DP OP C3 D3 O3 hv hD hH RX;have RL:=h2.below hh;have e0:wL.cell? ⟨vb,i*4,none⟩=some (.int .i64 x.id):=RL.cellAt (j:=0) hr rfl;have e1:wL.cell? ⟨vb,i*4+1,none⟩=some (.string x.nm):=RL.cellAt (j:=1) hr rfl;have e2:wL.cell? ⟨vb,i*4+2,none⟩=some (.bool x.fx):=RL.cellAt (j:=2) hr rfl;have e3:wL.cell? ⟨vb,i*4+3,none⟩=some (.slice pa0 pn0 pc0):=RL.cellAt (j:=3) hr rfl;have k3:wL.cell? ⟨w.heap.size,3,none⟩=some (.slice (some ⟨vb,0,none⟩) vn vc):=CL.cell 3;have qo:=hh.size;have hY:pn0<=4194304:=by have:=(z4 x (Zc hx)).2.1;rw[(TI.rows.its RI).len] at this;exact this
 go_wp2_with fail
 have hA:∀ u,Below wL.heap.size wL u->(fun u=>u.cell? ⟨w.heap.size,3,none⟩=some (.slice (some ⟨vb,0,none⟩) vn vc)∧u.cell? ⟨vb,i*4,none⟩=some (.int .i64 x.id)∧u.cell? ⟨vb,i*4+1,none⟩=some (.string x.nm)∧u.cell? ⟨vb,i*4+2,none⟩=some (.bool x.fx)∧u.cell? ⟨vb,i*4+3,none⟩=some (.slice pa0 pn0 pc0)) u:=fun u hu=>⟨Ab hu k3,Ab hu e0,Ab hu e1,Ab hu e2,Ab hu e3⟩;have qe:=hA wL.drew ((Yg _ _).drew);refine ar_ (S:=(fun u=>u.cell? ⟨w.heap.size,3,none⟩=some (.slice (some ⟨vb,0,none⟩) vn vc)∧u.cell? ⟨vb,i*4,none⟩=some (.int .i64 x.id)∧u.cell? ⟨vb,i*4+1,none⟩=some (.string x.nm)∧u.cell? ⟨vb,i*4+2,none⟩=some (.bool x.fx)∧u.cell? ⟨vb,i*4+3,none⟩=some (.slice pa0 pn0 pc0))) 12 (by kernel_rfl) (by kernel_rfl) ?_;refine tk 0 ?_;refine tk 1 ?_;refine tk 2 ?_;refine tk 3 ?_;refine tk 4 ?_;refine tk 5 ?_;refine tk 6 ?_;refine tk 7 ?_;refine tk 8 ?_;refine tk 9 ?_;refine Aq (i:=10) (by kernel_rfl) rfl (fun K hK=>?_);go_simp;refine (cB_ B x.id x.nm x.fx x.its pa0 pn0 pc0 irows file pa1 pn1 pc1 (Bd Q at0 [⟨a,0,data.size⟩]) _ ((RI.below hh).below ((Yg _ _).drew)) ((TI.below hh).below ((Yg _ _).drew)) ((Rp.mono hO).below ((Yg _ _).drew)) hY).mono ?_;rintro e w5 ⟨⟨a2,n2,cap2,nrows,rfl,RN,TN⟩,hz⟩;have he:Below wL.heap.size wL w5:=Aa ((Yg _ _).drew) hz;have qk:=he.size;dsimp only;refine hK.out _ _ (hA _ he) (fun hHeld=>?_);clear hK K
 try simp only[Act.put,lsA,lsB,lsC]
 refine tk 11 ?_;refine wpAnyH_done (by kernel_rfl) ?_ _;refine lastL rfl ?_;have hg:=Aa hh he;have hy:=RL.below he;obtain⟨vcs,VB⟩:=hy.blkAt;have z0:=VB.frozen (i*4);have z1':=VB.frozen (i*4+1);have z2':=VB.frozen (i*4+2);have z3':=VB.frozen (i*4+3);have v0:=Ab he e0;have v1:=Ab he e1;have v2:=Ab he e2;have v3:=Ab he e3;have hc:=Gj w5 vb (i*4) (.int .i64 x.id) (.string x.nm) (.bool x.fx) (.slice a2 n2 cap2);have hl:BF w5 (some vb) 80:=aa_ VB;have R1:=hy.set4V hr ⟨x.id,x.nm,x.fx,a2,n2,cap2⟩;simp only at R1;have T1:=((h3.below hg).ty hc hl (by decide) (by decide)).set i (show CE B _ ⟨x.id,x.nm,x.fx,a2,n2,cap2⟩ ⟨x.id,x.nm,x.fx,CV ⟨file,(Bd Q at0 [⟨a,0,data.size⟩])⟩ x.its⟩ from ⟨rfl,rfl,rfl,nrows,(RN.ty hc hl (by decide)).mono (by simp only[World.size_drew] at *;omega),TN.ty hc hl (by decide)⟩);have C2:=(CL.below he).ty hc hl (by decide);have D2:=(DL.below he).ty hc hl (by decide);have P2:Ag B ((((w5.setCell ⟨vb,i*4,none⟩ (.int .i64 x.id)).setCell ⟨vb,i*4+1,none⟩ (.string x.nm)).setCell ⟨vb,i*4+2,none⟩ (.bool x.fx)).setCell ⟨vb,i*4+3,none⟩ (.slice a2 n2 cap2)) (.agg #[.int .i64 size,.int .i64 next,.slice xa xn xc,.slice (some ⟨vb,0,none⟩) vn vc,.slice ra rn rc,.slice la ln lc]) ⟨size,next,L,vs.set i ⟨x.id,x.nm,x.fx,CV ⟨file,Bd Q at0 [⟨a,0,data.size⟩]⟩ x.its⟩,rf,lt⟩:=⟨xa,xn,xc,some ⟨vb,0,none⟩,vn,vc,ra,rn,rc,la,ln,lc,_,rfl,(REL.below he).ty hc hl (by decide),⟨R1,T1⟩,(h4.below hg).ty hc hl (by decide),(h5.below hg).ty hc hl (by decide),h6⟩;obtain⟨y0,y1,y2,y3,y4,y5⟩:=C2.six';obtain⟨q0,q1,q2,q3,q4,q5⟩:=D2.six';obtain⟨m0,m1,m2,m3,m4,m5⟩:=fz6 D2;have hJ:=(hg.mono hBw).grown hc (by omega) (fun j e=>by cases e;exact h9);have qj:=hc.size;have FT0:Hid (FrV w ((((w5.setCell ⟨vb,i*4,none⟩ (.int .i64 x.id)).setCell ⟨vb,i*4+1,none⟩ (.string x.nm)).setCell ⟨vb,i*4+2,none⟩ (.bool x.fx)).setCell ⟨vb,i*4+3,none⟩ (.slice a2 n2 cap2))):=fun k c t hb hw=>(hb.below hg).ty hc hl hw;clear R1 T1 hc hy VB hl hA;go_wp2;obtain⟨W8,hI,W0,hB⟩:=Ba D2 (.int .i64 size) (.int .i64 next) (.slice xa xn xc) (.slice (some ⟨vb,0,none⟩) vn vc) (.slice ra rn rc) (.slice la ln lc);have PF:=P2.tyP hB (aa_ D2);have B8:=hJ.grown hB (by omega) (fun j e=>by cases e;omega);have FT:=fun (k:Nat) (c:Array Value) (t:TypeId) (hb:Blk w k c t) (hw:t≠80)=>(FT0.out k c t hb hw).offB hB (B:=w.heap.size) (fun j e=>by cases e;omega) hb.lt;rw[<-hI];clear hI;refine YW (ad_ rfl _ W8 (w.heap.size+2) _ _ _ _ _ rfl W0 underlying28 rfl (by kernel_rfl) rfl) rfl ?_;exact⟨⟨_,0,rfl,bm_ _ _ _ _ _ _ _ _ _ _ _ _ _ _,by rw[hS.out],fun _=>⟨by rw[hS.out];exact PF,by exact Zl (Zm Rp.sl.len) (by omega)⟩⟩,B8,FT⟩
end
section
open Go Go.RowKit Go.BigFrame Tryz
variable{size:Int}
theorem e9_ (B:Nat)(hB0:0<B)(v:Value)(p:Po)(o:Opr)(w:World)(h:Ag B w v p)(hNn:NnE v)(hBw:B<=w.heap.size)(hd:AJ p)(hp:Ap p=true)(hk:o.k=3)(i:Nat)(hso:Bb p.vs o.vol=some i)(hfx:∀ x:Vo,p.vs[i]?=some x->x.fx=false)(hpo:AH p.vs o.vol o.file=none):
  Calls prog 66 #[v,.agg #[.int .i64 o.k,.string o.vol,.string o.file,.string o.to,.string o.into,.int .i64 o.at',.int .i64 o.fr,.int .i64 o.ln,.string o.data]] w fun e w'=>(∃ v' c,e=.returned (.tuple #[v',.int .i64 c])∧Bn v'∧c=(Ak p o).1∧(c=0->Ag B w' v' (Ak p o).2∧(Ai p o).2.2.length<=1000))∧Below B w w'∧FrV w w':=by
 have hh:=h.at';obtain⟨ea,en,ec,va,vn,vc,ra,rn,rc,la,ln,lc,rows,rfl,h1,⟨h2,h3⟩,h4,h5,h6⟩:=h;have ho:=hd;obtain⟨z1,z2,z3,z4,z5,z6,z7,z8⟩:=hd;have hV:Bp B w va vn p.vs:=h3.rows.vs h2;rw[hV.len] at z3;obtain⟨size,next,ex,vs,rf,lt⟩:=p;obtain⟨k,vol,file,tt,into,at0,fr,ln0,data⟩:=o;simp only at h1 h2 h3 h4 h5 hV z4 z3 hh hp hk ⊢;have _:=hB0;have _:=hNn;have _:=hBw;have _:=hp;have hv:vs.length=vn:=hV.len;have hw:rows.length=vn:=h2.sl.len;simp only at hso hfx hpo;subst hk;have hi:=ap_ hso;have ht:i<vn:=by omega
 have hx:vs[i]?=some vs[i]:=by simp[hi]
 have hA:(0:Int)<=(i:Int):=by omega
 have hu:(i:Int)<vn:=by omega
 have hr:rows[i]?=some (rows[i]'(by omega)):=by simp[hw,ht]
 have VT:=h3.at' i _ _ hr hx;generalize rows[i]'(by omega)=r0 at *;generalize vs[i]=x at *;obtain⟨rid,rnm,rfx,pa0,pn0,pc0⟩:=r0;obtain⟨e1,e2,e3,irows,RI,TI⟩:=VT;simp only at e1 e2 e3 RI;subst e1 e2 e3;obtain⟨vb,rfl,hD,hy,hz⟩:=h2.addr (by omega);have hf:=hfx _ hx;clear hfx;have hn:Ai ⟨size,next,ex,vs,rf,lt⟩ ⟨3,vol,file,tt,into,at0,fr,ln0,data⟩=(3,ex,[]):=by simp[Ai,hpo]
 have hS:Hid (Ak ⟨size,next,ex,vs,rf,lt⟩ ⟨3,vol,file,tt,into,at0,fr,ln0,data⟩=(3,⟨size,next,ex,vs,rf,lt⟩)):=by show _=_;simp[Ak,hso,hx,hf,hn]
 generalize hj:Ai ⟨size,next,ex,vs,rf,lt⟩ ⟨3,vol,file,tt,into,at0,fr,ln0,data⟩=PS at *;replace hj:Hid (Ai ⟨size,next,ex,vs,rf,lt⟩ ⟨3,vol,file,tt,into,at0,fr,ln0,data⟩=PS):=hj;generalize Ak ⟨size,next,ex,vs,rf,lt⟩ ⟨3,vol,file,tt,into,at0,fr,ln0,data⟩=R at *;have hq:Hid (x.fx=false):=hf;clear hf;go_enter func66,ntmps66
 go_wp2_with fail
 refine (ak_ B size next ea en ec (some ⟨vb,0,none⟩) vn vc ra rn rc la ln lc vs vol _ (hV.below (by go_grown)) z3).mono ?_;rintro e w1 ⟨rfl,hg⟩;obtain⟨C,O,D,ha,hB⟩:=bx3 hg;clear hg;rw[hso];simp only[BJ];obtain⟨c0,c1,c2,c3,c4,c5⟩:=C.six';obtain⟨o0,o1,o2,o3,o4,o5,o6,o7,o8⟩:=ce9 O;obtain⟨x0,x1,x2,x3,x4,x5⟩:=D.six';obtain⟨f0,f1,f2,f3,f4,f5⟩:=fz6 D;have RA:=h2.below ha;have e2:w1.cell? ⟨vb,i*4+2,none⟩=some (.bool x.fx):=RA.cellAt (j:=2) hr rfl;rw[hq.out] at e2
 go_wp2_with fail
 refine (aH_ B _ ⟨size,next,ex,vs,rf,lt⟩ vol file _ (hh.below ha) ho).mono ?_;rintro e wA ⟨he,hb⟩;obtain⟨qa,qn,qc,rfl,hQ⟩:=he.uni;clear he;have hm:Ae ((AH vs vol file).getD [])=true:=bH_ (p:=⟨size,next,ex,vs,rf,lt⟩) hp;simp only at hQ ⊢;clear c0 c1 c2 c3 c4 c5 o0 o1 o2 o3 o4 o5 o6 o7 o8 x0 x1 x2 x3 x4 x5 f0 f1 f2 f3 f4 f5;have C':=C.below hb;have D':=D.below hb;have O':=O.below hb;have hc:=Aa ha hb;have hC:=hb.size;clear C D O e2 RA;obtain⟨c0,c1,c2,c3,c4,c5⟩:=C'.six';obtain⟨o0,o1,o2,o3,o4,o5,o6,o7,o8⟩:=ce9 O';obtain⟨x0,x1,x2,x3,x4,x5⟩:=D'.six';obtain⟨f0,f1,f2,f3,f4,f5⟩:=fz6 D';rw[hpo] at hQ hm ⊢;simp only[Option.getD_none,Option.isSome_none] at hQ hm ⊢;go_wp2;obtain⟨W8,hl,W0,hs⟩:=Ba D' (.int .i64 size) (.int .i64 next) (.slice ea en ec) (.slice (some ⟨vb,0,none⟩) vn vc) (.slice ra rn rc) (.slice la ln lc);have B8:=hc.grown hs hc.size (fun j e=>by cases e;omega);rw[<-hl];clear hl;refine YW (ad_ rfl _ W8 (w.heap.size+2) _ _ _ _ _ rfl W0 underlying28 rfl (by kernel_rfl) rfl) rfl ?_;exact⟨⟨_,3,rfl,bm_ _ _ _ _ _ _ _ _ _ _ _ _ _ _,by rw[hS.out],fun h=>absurd h (by omega)⟩,B8.mono hBw,FrV.of B8⟩
theorem ei_ (B:Nat)(hB0:0<B)(v:Value)(p:Po)(o:Opr)(w:World)(h:Ag B w v p)(hNn:NnE v)(hBw:B<=w.heap.size)(hd:AJ p)(hp:Ap p=true)(hk:o.k=10)(i:Nat)(hso:Bb p.vs o.vol=some i)(hfx:∀ x:Vo,p.vs[i]?=some x->x.fx=false)(hpo:AH p.vs o.vol o.file=none):
  Calls prog 66 #[v,.agg #[.int .i64 o.k,.string o.vol,.string o.file,.string o.to,.string o.into,.int .i64 o.at',.int .i64 o.fr,.int .i64 o.ln,.string o.data]] w fun e w'=>(∃ v' c,e=.returned (.tuple #[v',.int .i64 c])∧Bn v'∧c=(Ak p o).1∧(c=0->Ag B w' v' (Ak p o).2∧(Ai p o).2.2.length<=1000))∧Below B w w'∧FrV w w':=by
 have hh:=h.at';obtain⟨ea,en,ec,va,vn,vc,ra,rn,rc,la,ln,lc,rows,rfl,h1,⟨h2,h3⟩,h4,h5,h6⟩:=h;have ho:=hd;obtain⟨z1,z2,z3,z4,z5,z6,z7,z8⟩:=hd;have hV:Bp B w va vn p.vs:=h3.rows.vs h2;rw[hV.len] at z3;obtain⟨size,next,ex,vs,rf,lt⟩:=p;obtain⟨k,vol,file,tt,into,at0,fr,ln0,data⟩:=o;simp only at h1 h2 h3 h4 h5 hV z4 z3 hh hp hk ⊢;have _:=hB0;have _:=hNn;have _:=hBw;have _:=hp;have hv:vs.length=vn:=hV.len;have hw:rows.length=vn:=h2.sl.len;simp only at hso hfx hpo;subst hk;have hi:=ap_ hso;have ht:i<vn:=by omega
 have hx:vs[i]?=some vs[i]:=by simp[hi]
 have hA:(0:Int)<=(i:Int):=by omega
 have hu:(i:Int)<vn:=by omega
 have hr:rows[i]?=some (rows[i]'(by omega)):=by simp[hw,ht]
 have VT:=h3.at' i _ _ hr hx;generalize rows[i]'(by omega)=r0 at *;generalize vs[i]=x at *;obtain⟨rid,rnm,rfx,pa0,pn0,pc0⟩:=r0;obtain⟨e1,e2,e3,irows,RI,TI⟩:=VT;simp only at e1 e2 e3 RI;subst e1 e2 e3;obtain⟨vb,rfl,hD,hy,hz⟩:=h2.addr (by omega);have hf:=hfx _ hx;clear hfx;have hn:Ai ⟨size,next,ex,vs,rf,lt⟩ ⟨10,vol,file,tt,into,at0,fr,ln0,data⟩=(3,ex,[]):=by simp[Ai,hpo]
 have hS:Hid (Ak ⟨size,next,ex,vs,rf,lt⟩ ⟨10,vol,file,tt,into,at0,fr,ln0,data⟩=(3,⟨size,next,ex,vs,rf,lt⟩)):=by show _=_;simp[Ak,hso,hx,hf,hn]
 generalize hj:Ai ⟨size,next,ex,vs,rf,lt⟩ ⟨10,vol,file,tt,into,at0,fr,ln0,data⟩=PS at *;replace hj:Hid (Ai ⟨size,next,ex,vs,rf,lt⟩ ⟨10,vol,file,tt,into,at0,fr,ln0,data⟩=PS):=hj;generalize Ak ⟨size,next,ex,vs,rf,lt⟩ ⟨10,vol,file,tt,into,at0,fr,ln0,data⟩=R at *;have hq:Hid (x.fx=false):=hf;clear hf;go_enter func66,ntmps66
 go_wp2_with fail
 refine (ak_ B size next ea en ec (some ⟨vb,0,none⟩) vn vc ra rn rc la ln lc vs vol _ (hV.below (by go_grown)) z3).mono ?_;rintro e w1 ⟨rfl,hg⟩;obtain⟨C,O,D,ha,hB⟩:=bx3 hg;clear hg;rw[hso];simp only[BJ];obtain⟨c0,c1,c2,c3,c4,c5⟩:=C.six';obtain⟨o0,o1,o2,o3,o4,o5,o6,o7,o8⟩:=ce9 O;obtain⟨x0,x1,x2,x3,x4,x5⟩:=D.six';obtain⟨f0,f1,f2,f3,f4,f5⟩:=fz6 D;have RA:=h2.below ha;have e2:w1.cell? ⟨vb,i*4+2,none⟩=some (.bool x.fx):=RA.cellAt (j:=2) hr rfl;rw[hq.out] at e2
 go_wp2_with fail
 refine (aH_ B _ ⟨size,next,ex,vs,rf,lt⟩ vol file _ (hh.below ha) ho).mono ?_;rintro e wA ⟨he,hb⟩;obtain⟨qa,qn,qc,rfl,hQ⟩:=he.uni;clear he;have hm:Ae ((AH vs vol file).getD [])=true:=bH_ (p:=⟨size,next,ex,vs,rf,lt⟩) hp;simp only at hQ ⊢;clear c0 c1 c2 c3 c4 c5 o0 o1 o2 o3 o4 o5 o6 o7 o8 x0 x1 x2 x3 x4 x5 f0 f1 f2 f3 f4 f5;have C':=C.below hb;have D':=D.below hb;have O':=O.below hb;have hc:=Aa ha hb;have hC:=hb.size;clear C D O e2 RA;obtain⟨c0,c1,c2,c3,c4,c5⟩:=C'.six';obtain⟨o0,o1,o2,o3,o4,o5,o6,o7,o8⟩:=ce9 O';obtain⟨x0,x1,x2,x3,x4,x5⟩:=D'.six';obtain⟨f0,f1,f2,f3,f4,f5⟩:=fz6 D';rw[hpo] at hQ hm ⊢;simp only[Option.getD_none,Option.isSome_none] at hQ hm ⊢;go_wp2;obtain⟨W8,hl,W0,hs⟩:=Ba D' (.int .i64 size) (.int .i64 next) (.slice ea en ec) (.slice (some ⟨vb,0,none⟩) vn vc) (.slice ra rn rc) (.slice la ln lc);have B8:=hc.grown hs hc.size (fun j e=>by cases e;omega);rw[<-hl];clear hl;refine YW (ad_ rfl _ W8 (w.heap.size+2) _ _ _ _ _ rfl W0 underlying28 rfl (by kernel_rfl) rfl) rfl ?_;exact⟨⟨_,3,rfl,bm_ _ _ _ _ _ _ _ _ _ _ _ _ _ _,by rw[hS.out],fun h=>absurd h (by omega)⟩,B8.mono hBw,FrV.of B8⟩
end
end Go.Proofs.YtkiceokhlceciaaGreatDoor
