/- Plain facts for PoolOk of the program: sets of addresses; volumes by their names. -/
import Derived.Test.YteejlahappbalaaGreatDoorU04
import Derived.Test.YteejlahappbalaaGreatDoorU07
import Derived.Test.YteejlahappbalaaGreatDoorU09
set_option maxHeartbeats 20000000
set_option maxRecDepth 100000
namespace Go.Proofs.YteejlahappbalaaGreatDoor
section
open Go Go.RowKit
variable{p:Pt}
def RJ (r:RSt)(J:List Pt):Prop:=(r.ov=false->r.L=J∧r.s<=100∧J.length<=16)∧(r.ov=true->100<r.s∨16<J.length)
theorem fx_ {x:Int}(h0:0<=x)(h1:x<=1000000):wrap64 x=x:=by unfold wrap64;omega
theorem mQ_ {fr to st:Int}(h:max (fr-st) 0<min (to-st) p.n):1<=(Fk p (max (fr-st) 0) (min (to-st) p.n)).n∧(Fk p (max (fr-st) 0) (min (to-st) p.n)).n<=p.n:=by
 rw[gf_];omega
theorem rZ{p:Prop}(h:p:=by simp only[Ar];omega):p:=h
theorem hT_ (fr to:Int)(l:List Pt):∀ st,(∀ p∈l,1<=p.n)->(∀ p∈slp fr to st l,1<=p.n)∧Ar (slp fr to st l)<=Ar l∧(slp fr to st l).length<=l.length∧0<=Ar l:=by
 induction l with
 |nil=>intro st _;simp[slp,Ar]
 |cons p r ih=>
  intro st h;have hp:=h p sK;obtain⟨h1,h2,h3,h4⟩:=ih (st+p.n) (fun q hq=>h q fA);by_cases hx:max (fr-st) 0<min (to-st) p.n
  ·have hb:=mQ_ hx;rw[eN_ rfl rfl hx];refine⟨?_,rZ,sN,rZ⟩;intro q hq;rcases Zn.1 hq with rfl | hq
   ·exact hb.1
   ·exact h1 q hq
  ·rw[fo_ hx];exact⟨h1,rZ,sN,rZ⟩
end
section
open Go Go.RowKit Go.BigFrame Tryz
variable{r:IR}{y:It}{e:List Ex}{rows:List IR}{B cap2 n2:Nat}{a2:Option Addr}{p:Po}{w3 wr:World}
theorem lD{p:Prop}(h:p:=by
 have hq:¬ y.nm.toList=name.toList:=rH;go_wp2_with (at_builtin;refine ag_ rfl (fun K hK=>b1_ _ _ rfl (w.heap.size+2) a2 n2 cap2 rows rfl (R2.alloc _) _ _ (⟨y.nm,qa,qn,qc⟩:IR) rfl (cd_ _ (⟨y.nm,qa,qn,qc⟩:IR) _ _ sK) sH sN (fun a3 cap3 w3 R3 qz km=>hK _ _ ?_));have E3:=E.app R2 qz km;have zt:=E3.sz);go_wp2;go_roundw
 case rel=>exact⟨k+1,a3,(n2+1),cap3,_,sH,sQ,rU,rfl,sH,R3,by rw[qh.out,he.out];exact (T2.app hV R2 qz),E3⟩
 case measure=>simp[intOf];omega):p:=h
theorem lZ{p:Prop}(h:p:=by
 have hq:y.nm.toList=name.toList:=rH;have zx:=zh;rw[hq] at zx;go_wp2;go_roundw
 case rel=>exact⟨k+1,a2,n2,cap2,rows,sH,sQ,rU,rfl,sH,R2,by rw[qh.out,he.out];exact T2,E⟩
 case measure=>simp[intOf];omega):p:=h
theorem rt{p:Prop}(h:p:=by show _=_;simp[Ev,zh,zf]):p:=h
theorem cB_ (B:Nat)(id:Int)(nm:ByteArray)(fx:Bool)(its:List It)(ia:Option Addr)(inn icp:Nat)(irows:List IR)(name:ByteArray)(pa:Option Addr)(pn pc:Nat)(ps:List Pt)(w:World)
  (R:Ac irs 2 125 w B ia inn icp irows)(T:AV B w irows its)(RP:Ac Pt.cs 3 156 w B pa pn pc ps)(hn:inn<=4194304):
  Calls prog 213 #[.agg #[.int .i64 id,.string nm,.bool fx,.slice ia inn icp],.string name,.slice pa pn pc] w fun e w'=>(∃ a2 n2 cap2 rows,e=.returned (.agg #[.int .i64 id,.string nm,.bool fx,.slice a2 n2 cap2])∧Ac irs 2 125 w' w.heap.size a2 n2 cap2 rows∧AV B w' rows (Jp ⟨name,ps⟩ its))∧Below w.heap.size w w':=by
 have ha:Hid (its.length=inn):=r7;have ho:irows.length=inn:=R.sl.len;go_enter func213,ntmps213;go_wp2_with fail;go_loopw [7,9,10] (fun lst dn ix wr=>∃ (k:Nat) (a2:Option Addr) (n2 cap2:Nat) (rows:List IR),k<=inn∧ix=.int .i64 k∧dn=.bool (HY ⟨name,ps⟩ its k).2∧lst=.slice a2 n2 cap2∧n2<=2*k∧Ac irs 2 125 wr (w.heap.size+2) a2 n2 cap2 rows∧AV B wr rows (HY ⟨name,ps⟩ its k).1∧Kc w B a2 id nm fx ia inn icp name pa pn pc wr) (fun _ _ ix _=>inn-(intOf ix).toNat)
 case atStart=>exact⟨0,_,0,0,[],Zg _,rfl,rfl,rfl,sH,aw_ ((Blk.new' _ _ _ _ sK).alloc _) sH,AV.nil _ _,⟨fun ad e=>(by cases e;simp only[ne_eq];omega),(((Blk.new w _ _).alloc _).alloc _).alloc _,((Blk.new' _ _ _ _ sK).alloc _).alloc _,Blk.new' _ _ _ _ sK,sK,sM⟩⟩
 case round=>
  obtain⟨k,a2,n2,cap2,rows,hk,rfl,rfl,rfl,hx,R2,T2,E⟩:=hrel;obtain⟨z0,z1,z2,z3⟩:=E.b0.four;have x0:wr.cell? ⟨w.heap.size+3,0,none⟩=some (.string name):=E.b3.cell 0;have x1:wr.cell? ⟨w.heap.size+3,1,none⟩=some (.slice pa pn pc):=E.b3.cell 1;have hz:=E.sz;have V0:EL B wr (⟨name,pa,pn,pc⟩:IR) ⟨name,ps⟩:=⟨rfl,RP.below E.bl⟩;by_cases hlt:k<inn
  ·have hr:irows[k]?=some (irows[k]'sH):=by simp[ho,hlt]
   have hy:its[k]?=some (its[k]'(by rw[ha.out];exact hlt)):=by simp[ha.out,hlt]
   have hs:=hr;have hV:=(T.below E.bl).at' k _ _ hr hy;obtain⟨b,o,rfl,hc⟩:=(R.sl.below E.bl).cell k _ hr;generalize irows[k]'sH=r at *;generalize its[k]'(by rw[ha.out];exact hlt)=y at *;obtain⟨rn,qa,qn,qc⟩:=r;have c0:wr.cell? ⟨b,o+k*2,none⟩=some (.string rn):=hc 0 _ rfl;have c1:wr.cell? ⟨b,o+k*2+1,none⟩=some (.slice qa qn qc):=hc 1 _ rfl;have qh:Hid (HY ⟨name,ps⟩ its (k+1)=Ev ⟨name,ps⟩ (HY ⟨name,ps⟩ its k) y):=nq_ hy;have ht:rn=y.nm:=hV.nm;subst ht;clear hc hr hy;have hv:(k:Int)<inn:=sH;have hw:(0:Int)<=k:=sH;generalize HY ⟨name,ps⟩ its k=G at *;obtain⟨gl,d⟩:=G;simp only at T2 ⊢;have hj:b<w.heap.size+2:=by
    have:=Yk w (⟨b,o+k*2,none⟩:Addr) (u:=.string y.nm) (by
     obtain⟨b',o',qW,hm⟩:=R.sl.cell k _ hs;obtain⟨rfl,rfl⟩:b=b'∧o=o':=rE
     exact hm 0 _ rfl)
    simp only at this;omega
   cases d
   ·cases zh:bl y.nm.toList name.toList
    ·cases zf:(y.nm.toList==name.toList)
     ·have he:Hid (Ev ⟨name,ps⟩ (gl,false) y=(gl++[⟨name,ps⟩]++[y],true)):=rt;have hq:¬ y.nm.toList=name.toList:=rH;go_wp2_with (first | (at_builtin;refine ag_ rfl (fun K hK=>b1_ _ _ rfl (w.heap.size+2) a3 (n2+1) cap3 (rows++[(⟨name,pa,pn,pc⟩:IR)]) rfl (R3.alloc _) _ _ (⟨y.nm,qa,qn,qc⟩:IR) rfl (cd_ _ (⟨y.nm,qa,qn,qc⟩:IR) _ _ sK) sH sN (fun a4 cap4 w4 R4 hl hp=>hK _ _ ?_));have E4:=E3.app R3 hl hp;have hu:=E4.sz) | (at_builtin;refine ag_ rfl (fun K hK=>b1_ _ _ rfl (w.heap.size+2) a2 n2 cap2 rows rfl (R2.alloc _) _ _ (⟨name,pa,pn,pc⟩:IR) rfl (cd_ _ (⟨name,pa,pn,pc⟩:IR) _ _ sK) sH sN (fun a3 cap3 w3 R3 qz km=>hK _ _ ?_));have E3:=E.app R2 qz km;have zt:=E3.sz;have z3:w3.cell? ⟨w.heap.size,3,none⟩=some (.slice (some ⟨b,o,none⟩) inn icp):=E3.b0.cell 3;have c03:=qz.cell (Aj _ c0) (at_ (fun ad hb=>(R2.block ad hb).1) hj);have c13:=qz.cell (Aj _ c1) (at_ (fun ad hb=>(R2.block ad hb).1) hj)));go_wp2;go_roundw
      case rel=>exact⟨k+1,a4,(n2+1+1),cap4,_,sH,sQ,rU,rfl,sH,R4,by rw[qh.out,he.out];exact ((T2.app V0 R2 qz).app (hV.app R2 qz) R3 hl),E4⟩
      case measure=>simp[intOf];omega
     ·have he:Hid (Ev ⟨name,ps⟩ (gl,false) y=(gl++[⟨name,ps⟩],true)):=rt;have hq:y.nm.toList=name.toList:=rH;have zx:=zh;rw[hq] at zx;go_wp2_with (at_builtin;refine ag_ rfl (fun K hK=>b1_ _ _ rfl (w.heap.size+2) a2 n2 cap2 rows rfl (R2.alloc _) _ _ (⟨name,pa,pn,pc⟩:IR) rfl (cd_ _ (⟨name,pa,pn,pc⟩:IR) _ _ sK) sH sN (fun a3 cap3 w3 R3 qz km=>hK _ _ ?_));have E3:=E.app R2 qz km;have zt:=E3.sz;have z3:w3.cell? ⟨w.heap.size,3,none⟩=some (.slice (some ⟨b,o,none⟩) inn icp):=E3.b0.cell 3;have c03:=qz.cell (Aj _ c0) (at_ (fun ad hb=>(R2.block ad hb).1) hj);have c13:=qz.cell (Aj _ c1) (at_ (fun ad hb=>(R2.block ad hb).1) hj));go_wp2;go_roundw
      case rel=>exact⟨k+1,a3,(n2+1),cap3,_,sH,sQ,rU,rfl,sH,R3,by rw[qh.out,he.out];exact (T2.app V0 R2 qz),E3⟩
      case measure=>simp[intOf];omega
    ·cases zf:(y.nm.toList==name.toList)
     ·have he:Hid (Ev ⟨name,ps⟩ (gl,false) y=(gl++[y],false)):=rt;exact lD
     ·have he:Hid (Ev ⟨name,ps⟩ (gl,false) y=(gl,false)):=rt;exact lZ
   ·cases zh:bl y.nm.toList name.toList
    ·cases zf:(y.nm.toList==name.toList)
     ·have he:Hid (Ev ⟨name,ps⟩ (gl,true) y=(gl++[y],true)):=rt;exact lD
     ·have he:Hid (Ev ⟨name,ps⟩ (gl,true) y=(gl,true)):=rt;exact lZ
    ·cases zf:(y.nm.toList==name.toList)
     ·have he:Hid (Ev ⟨name,ps⟩ (gl,true) y=(gl++[y],true)):=rt;exact lD
     ·have he:Hid (Ev ⟨name,ps⟩ (gl,true) y=(gl,true)):=rt;exact lZ
  ·obtain rfl:k=inn:=sH;have hh:Hid (MU ⟨name,ps⟩ (HY ⟨name,ps⟩ its k)=Jp ⟨name,ps⟩ its):=om_ ha.out;generalize HY ⟨name,ps⟩ its k=G at *;obtain⟨gl,d⟩:=G;simp only at T2 ⊢
   cases d
   ·go_wp2_with (at_builtin;refine ag_ rfl (fun K hK=>b1_ _ _ rfl (w.heap.size+2) a2 n2 cap2 rows rfl (R2.alloc _) _ _ (⟨name,pa,pn,pc⟩:IR) rfl (cd_ _ (⟨name,pa,pn,pc⟩:IR) _ _ sK) sH sN (fun a3 cap3 w3 R3 qz km=>hK _ _ ?_));have E3:=E.app R2 qz km;have zt:=E3.sz;have g3:=E3.b0.frozen 3;obtain⟨u0,u1,u2,u3⟩:=E3.b0.four;have V1:=E3.b0.set 3 (.slice a3 (n2+1) cap3);have hg:=CE w3 w.heap.size 3 (.slice a3 (n2+1) cap3);have D1:=E3.b1.other ⟨w.heap.size,3,none⟩ (.slice a3 (n2+1) cap3) rK;have V2:Blk (w3.setCell ⟨w.heap.size,3,none⟩ (.slice a3 (n2+1) cap3)) w.heap.size #[.int .i64 id,.string nm,.bool fx,.slice a3 (n2+1) cap3] 115:=(by simpa using V1);have RR:=R3.ty hg (aa_ E3.b0) sJ;have TT:=(T2.app V0 R2 qz).ty hg (aa_ E3.b0) sJ;have BB:=E3.bl.setCell (p:=⟨w.heap.size,3,none⟩) (Zd _) (.slice a3 (n2+1) cap3);obtain⟨v0,v1,v2,v3⟩:=V2.four;have m0:=D1.frozen 0;have m1:=D1.frozen 1;have m2:=D1.frozen 2;have m3:=D1.frozen 3;obtain⟨n0,n1,n2',n3⟩:=D1.four;obtain⟨W0,hf⟩:=UB D1 (.int .i64 id) (.string nm) (.bool fx) (.slice a3 (n2+1) cap3);have R0:=RR.ty hf (aa_ D1) sJ;have T0:=TT.ty hf (aa_ D1) sJ;have B1:=BB.grown hf BB.size (fun j e=>by cases e;omega);clear V1 V2 D1 RR TT BB hg);generalize ((((w3.setCell ⟨w.heap.size,3,none⟩ (.slice a3 (n2+1) cap3)).setCell ⟨w.heap.size+1,0,none⟩ (.int .i64 id)).setCell ⟨w.heap.size+1,1,none⟩ (.string nm)).setCell ⟨w.heap.size+1,2,none⟩ (.bool fx)).setCell ⟨w.heap.size+1,3,none⟩ (.slice a3 (n2+1) cap3)=W8 at *;refine YW (results_cell_row rfl _ W8 (w.heap.size+1) _ _ _ _ rfl W0 underlying115 rfl sI) rfl ?_;exact⟨⟨a3,(n2+1),cap3,_,rfl,R0.mono sH,by rw[<-hh.out];simp only[MU];exact T0⟩,B1⟩
   ·have g3:=E.b0.frozen 3;obtain⟨u0,u1,u2,u3⟩:=E.b0.four;have V1:=E.b0.set 3 (.slice a2 n2 cap2);have hg:=CE wr w.heap.size 3 (.slice a2 n2 cap2);have D1:=E.b1.other ⟨w.heap.size,3,none⟩ (.slice a2 n2 cap2) rK;have V2:Blk (wr.setCell ⟨w.heap.size,3,none⟩ (.slice a2 n2 cap2)) w.heap.size #[.int .i64 id,.string nm,.bool fx,.slice a2 n2 cap2] 115:=by simpa using V1
    have RR:=R2.ty hg (aa_ E.b0) sJ;have TT:=T2.ty hg (aa_ E.b0) sJ;have BB:=E.bl.setCell (p:=⟨w.heap.size,3,none⟩) (Zd _) (.slice a2 n2 cap2);obtain⟨v0,v1,v2,v3⟩:=V2.four;have m0:=D1.frozen 0;have m1:=D1.frozen 1;have m2:=D1.frozen 2;have m3:=D1.frozen 3;obtain⟨n0,n1,n2',n3⟩:=D1.four;obtain⟨W0,hf⟩:=UB D1 (.int .i64 id) (.string nm) (.bool fx) (.slice a2 n2 cap2);have R0:=RR.ty hf (aa_ D1) sJ;have T0:=TT.ty hf (aa_ D1) sJ;have B1:=BB.grown hf BB.size (fun j e=>by cases e;omega);clear V1 V2 D1 RR TT BB hg;go_wp2;generalize ((((wr.setCell ⟨w.heap.size,3,none⟩ (.slice a2 n2 cap2)).setCell ⟨w.heap.size+1,0,none⟩ (.int .i64 id)).setCell ⟨w.heap.size+1,1,none⟩ (.string nm)).setCell ⟨w.heap.size+1,2,none⟩ (.bool fx)).setCell ⟨w.heap.size+1,3,none⟩ (.slice a2 n2 cap2)=W8 at *;refine YW (results_cell_row rfl _ W8 (w.heap.size+1) _ _ _ _ rfl W0 underlying115 rfl sI) rfl ?_;exact⟨⟨a2,n2,cap2,_,rfl,R0.mono sH,by rw[<-hh.out];simp only[MU];exact T0⟩,B1⟩
end
section
open Go Go.RowKit
variable{B y:Int}{l m:List Pt}{p x:Pt}
theorem aX_ {q:Option Pt}{r:List Pt}:pgo q B (p::r)=true↔Al p=true∧p.n<=B∧(∀ x,q=some x->Bd x p=false)∧pgo (some p) (B-p.n) r=true:=by
 cases q with
 |none=>simp[pgo,and_assoc]
 |some x=>simp[pgo,and_assoc]
theorem f4_ (l:List Pt):∀ (q:Option Pt) (B c:Int),pgo q B l=true->Ar l<=c->0<=c->pgo q c l=true:=by
 induction l with
 |nil=>intro q B c _ _ _;cases q<;>rfl
 |cons p r ih=>
  intro q B c h hs hc;obtain⟨h1,h2,h3,h4⟩:=aX_.1 h;simp only[Ar] at hs;have ha:=cH_ r (some p) (B-p.n) sH h4;have hr:=az_ r ha.1;exact aX_.2 ⟨h1,sH,h3,ih (some p) (B-p.n) (c-p.n) h4 sH sH⟩
theorem kS_ (l:List Pt):∀ (q:Option Pt) (B:Int) (p:Pt),pgo q B l=true->Al p=true->Ar l+p.n<=B->(∀ x,(l.getLast?.or q)=some x->Bd x p=false)->pgo q B (l++[p])=true:=by
 induction l with
 |nil=>
  intro q B p _ hp hs hx;simp only[Ar] at hs;exact aX_.2 ⟨hp,sH,fun x hq=>hx x (by simpa using hq),rfl⟩
 |cons y r ih=>
  intro q B p h hp hs hx;obtain⟨h1,h2,h3,h4⟩:=aX_.1 h;simp only[Ar] at hs;refine aX_.2 ⟨h1,h2,h3,ih (some y) (B-y.n) p h4 hp sH ?_⟩;intro x ha;refine hx x ?_
  cases r with
  |nil=>simpa using ha
  |cons z t=>
   obtain⟨v,hv⟩:∃ v,(z::t).getLast?=some v:=⟨_,List.getLast?_cons⟩;rw[hv] at ha;rw[List.getLast?_cons_cons,hv];exact ha
theorem oJ_ (l:List Pt):∀ (q:Option Pt) (B:Int) (p:Pt),pgo q B (l++[p])=true->pgo q B l=true∧Al p=true∧Ar l+p.n<=B∧(∀ x,(l.getLast?.or q)=some x->Bd x p=false):=by
 induction l with
 |nil=>
  intro q B p h;obtain⟨h1,h2,h3,_⟩:=aX_.1 h;exact⟨by cases q<;>rfl,h1,rZ,fun x hx=>h3 x oz⟩
 |cons y r ih=>
  intro q B p h;obtain⟨h1,h2,h3,h4⟩:=aX_.1 h;obtain⟨k1,k2,k3,k4⟩:=ih (some y) (B-y.n) p h4;refine⟨aX_.2 ⟨h1,h2,h3,k1⟩,k2,rZ,?_⟩;intro x hx;refine k4 x ?_
  cases r with
  |nil=>simpa using hx
  |cons z t=>
   obtain⟨v,hv⟩:∃ v,(z::t).getLast?=some v:=⟨_,List.getLast?_cons⟩;rw[List.getLast?_cons_cons,hv] at hx;rw[hv];exact hx
theorem nF_ (hx:Al x=true)(hp:Al p=true)(hg:Bd x p=true):Al ⟨x.a,x.f,x.n+p.n⟩=true:=by
 have h1:=av_ hx;have h2:=av_ hp;simp only[Bd,Zf,Bool.or_eq_true,beq_iff_eq] at hg;obtain⟨ha,hg⟩:=hg;unfold Al at *;by_cases h0:x.a=0
 ·simp[h0] at hx ⊢;omega
 ·have hb:(x.a==0)=false:=by simp[h0]
  have hc:(p.a==0)=false:=sN;simp only[hb,hc,Zj,if_false,Zf,ZU] at hx hp ⊢;rcases hg with hg | hg
  ·omega
  ·rw[fx_ sH sH] at hg;omega
theorem pL_ (h:pgo none B l=true)(hp:Al p=true)(hs:Ar l+p.n<=B)(hB:B<=1000)(h0:0<=B):pgo none B (BG l p)=true∧Ar (BG l p)=Ar l+p.n:=by
 rcases List.eq_nil_or_concat l with rfl | ⟨L,x,rfl⟩
 ·simp only[Ar] at hs;exact⟨aX_.2 ⟨hp,sH,fun x hx=>(by cases hx),rfl⟩,by simp[BG,Ar]⟩
 ·rw[List.concat_eq_append] at *;have hl:(L++[x]).getLast?=some x:=sK
  cases hg:Bd x p
  ·have e:BG (L++[x]) p=L++[x]++[p]:=by simp[BG,hg]
   rw[e];exact⟨kS_ _ none B p h hp hs (fun y hy=>by simp at hy;subst hy;exact hg),by rw[a5_];simp[Ar]⟩
  ·obtain⟨k1,k2,k3,k4⟩:=oJ_ L none B x h;rw[a5_] at hs;simp only[Ar] at hs;have hL:=az_ L (cH_ L none B h0 k1).1;have hb:=av_ k2;have ha:=av_ hp;have e:BG (L++[x]) p=L++[⟨x.a,x.f,x.n+p.n⟩]:=by
    simp only[BG,hl,hg,if_true,List.dropLast_concat];rw[fx_ sH sH]
   rw[e];refine⟨kS_ L none B _ k1 (nF_ k2 hp hg) (by show Ar L+(x.n+p.n)<=B;omega) k4,?_⟩;rw[a5_,a5_];simp[Ar];omega
theorem kT_ (m:List Pt):∀ (l:List Pt) (B:Int),pgo none B l=true->(∀ p∈m,Al p=true)->Ar l+Ar m<=B->B<=1000->0<=B->pgo none B (Aw l m)=true∧Ar (Aw l m)=Ar l+Ar m:=by
 induction m with
 |nil=>intro l B h _ _ _ _;exact⟨h,by simp[Aw,Ar]⟩
 |cons p t ih=>
  intro l B h hm hs hB h0;simp only[Ar] at hs;have ht:=az_ t (fun q hq=>hm q fA);obtain⟨a1,a2⟩:=pL_ h (hm p sK) sH hB h0;obtain⟨b1,b2⟩:=ih (BG l p) B a1 (fun q hq=>hm q fA) sH hB h0;exact⟨b1,by show Ar (Aw (BG l p) t)=_;rw[b2,a2];simp[Ar];omega⟩
theorem f5_ (h:Ae l=true):pgo none 100 l=true:=by
 simp[Ae] at h;exact h.2
theorem iw_ (hl:Ae l=true)(hm:Ae m=true):Ae (Aw l m)=decide (Ar l+Ar m<=100∧(Aw l m).length<=16):=by
 have sl:=ae_ hl;have sm:=ae_ hm;have nl:=az_ l sl.2.1;have nm:=az_ m sm.2.1
 obtain⟨b1,b2⟩:=kT_ m l 200 (by
  have hp:=f5_ hl;exact f4_ l none 100 200 hp sH sH) sm.2.1 sH sH sH
 rw[YH];simp only[Ae,Zf,ZU];constructor
 ·rintro⟨h1,h2⟩;have:=cH_ _ none 100 sH h2;exact⟨sH,h1⟩
 ·rintro⟨h1,h2⟩;exact⟨h2,f4_ _ none 200 100 b1 sH sH⟩
theorem kU_ {fr to:Int}(l:List Pt):∀ st,to<=st->(∀ p∈l,1<=p.n)->slp fr to st l=[]:=by
 induction l with
 |nil=>intro st _ _;rfl
 |cons p r ih=>
  intro st h hp;have:=hp p sK;rw[fo_ sH];exact ih _ sH (fun q hq=>hp q fA)
theorem p9_ {x:Int}(h:Al p=true)(h0:0<=x)(h1:x<y)(h2:y<=p.n):Al (Fk p x y)=true:=by
 unfold Al at *;unfold Fk;by_cases ha:p.a=0
 ·simp[ha];omega
 ·have hb:(p.a==0)=false:=by simp[ha]
  simp only[hb,Zj,if_false,Zf,ZU] at h ⊢;omega
def Ub (x x':Pt):Prop:=x'.a=x.a∧(x.a=0∨x'.f+x'.n=x.f+x.n)
theorem oK_ {x':Pt}(ht:Ub x x')(hg:Bd x p=false):Bd x' (Fk p 0 y)=false:=by
 obtain⟨h1,h2⟩:=ht;unfold Bd at *;unfold Fk;by_cases ha:p.a=0
 ·simp[ha] at hg ⊢;rw[h1];exact hg
 ·have hb:(p.a==0)=false:=by simp[ha]
  simp only[hb,Zj,if_false,Bool.false_or,Int.add_zero] at hg ⊢;rw[h1];rcases h2 with h2 | h2
  ·have:(p.a==x.a)=false:=by rw[h2];exact hb
   simp[this]
  ·rw[h2];exact hg
theorem qa_ (fr to:Int)(l:List Pt):∀ (st B:Int) (q q':Option Pt),0<=B->pgo q B l=true->(∀ x',q'=some x'->fr<=st∧∃ x,q=some x∧Ub x x')->pgo q' B (slp fr to st l)=true:=by
 induction l with
 |nil=>intro st B q q' _ _ _;cases q'<;>rfl
 |cons p r ih=>
  intro st B q q' hB h hq;obtain⟨h1,h2,h3,h4⟩:=aX_.1 h;have hm:=av_ h1;have hg:=cH_ r (some p) (B-p.n) sH h4;have hc:∀ y∈r,1<=y.n:=fun y hy=>av_ (hg.1 y hy);by_cases hx:max (fr-st) 0<min (to-st) p.n
  ·rw[eN_ rfl rfl hx];have hb:=mQ_ hx;have he:pgo (some (Fk p (max (fr-st) 0) (min (to-st) p.n))) (B-p.n) (slp fr to (st+p.n) r)=true:=by
    by_cases hy:p.n<=to-st
    ·refine ih (st+p.n) (B-p.n) (some p) _ sH h4 ?_;intro x' hf;obtain rfl:=Zi hf;refine⟨sH,p,rfl,?_⟩;unfold Ub Fk;by_cases ha:p.a=0
     ·simp[ha]
     ·have hj:(p.a==0)=false:=by simp[ha]
      simp only[hj,Zj,if_false];exact⟨trivial,.inr sH⟩
    ·rw[kU_ r (st+p.n) sH hc];rfl
   have hh:=hT_ fr to r (st+p.n) hc;refine aX_.2 ⟨p9_ h1 sH hx sH,sH,?_,f4_ _ _ _ _ he sH sH⟩;intro x' hf;obtain⟨hk,x,hl,ht⟩:=hq x' hf;have e:max (fr-st) 0=0:=sH;rw[e];exact oK_ ht (h3 x hl)
  ·rw[fo_ hx]
   cases q' with
   |some x'=>
    obtain⟨hk,_⟩:=hq x' rfl;rw[kU_ r (st+p.n) sH hc];rfl
   |none=>
    have:=ih (st+p.n) (B-p.n) (some p) none sH h4 (fun x' hf=>(by cases hf));have hh:=hT_ fr to r (st+p.n) hc;exact f4_ _ _ _ _ this sH hB
theorem b8_ (h:Ae l=true)(fr to:Int):pgo none 100 (slp fr to 0 l)=true:=
 qa_ fr to l 0 100 none none sH (f5_ h) (fun x' ha=>(by cases ha))
end
section
open Go Go.RowKit Go.BigFrame Tryz
variable{B:Nat}
theorem Ac.set4V {w:World}{b n cap i:Nat}{rows:List VR}{r:VR}(h:Ac vrs 4 115 w B (some ⟨b,0,none⟩) n cap rows)(hi:rows[i]?=some r)(r':VR):
  Ac vrs 4 115 ((((w.setCell ⟨b,i*4,none⟩ (.int .i64 r'.id)).setCell ⟨b,i*4+1,none⟩ (.string r'.nm)).setCell ⟨b,i*4+2,none⟩ (.bool r'.fx)).setCell ⟨b,i*4+3,none⟩ (.slice r'.pa r'.pn r'.pc)) B (some ⟨b,0,none⟩) n cap (rows.set i r'):=by
 have hl:=(Zb.1 hi).1;have q1:=Ac.set1 (j:=0) (v:=.int .i64 r'.id) (x':={r with id:=r'.id}) a2_ h hi sH rfl;have q2:=Ac.set1 (j:=1) (v:=.string r'.nm) (x':={r with id:=r'.id,nm:=r'.nm}) a2_ q1 (Zx hl) sH rfl;rw[List.set_set] at q2;have q3:=Ac.set1 (j:=2) (v:=.bool r'.fx) (x':={r with id:=r'.id,nm:=r'.nm,fx:=r'.fx}) a2_ q2 (Zx hl) sH rfl;rw[List.set_set] at q3;have q4:=Ac.set1 (j:=3) (v:=.slice r'.pa r'.pn r'.pc) (x':=r') a2_ q3 (Zx hl) sH rfl;rw[List.set_set] at q4;exact q4
theorem Um (w:World)(b i:Nat)(v0 v1 v2 v3:Value):w.grownBy ((((w.setCell ⟨b,i,none⟩ v0).setCell ⟨b,i+1,none⟩ v1).setCell ⟨b,i+2,none⟩ v2).setCell ⟨b,i+3,none⟩ v3) (some b):=af_ (af_ (af_ (CE w b i v0) (i+1) v1) (i+2) v2) (i+3) v3
theorem Pf.uni {e:Ending}{w':World}{q:Option (List Pt)}(h:Pf B e w' q):∃ qa qn qc,e=.returned (.tuple #[.slice qa qn qc,.bool q.isSome])∧BH w' qa qn (q.getD []):=by
 cases q with
 |none=>exact⟨none,0,0,h,rfl,fun i x hx=>by simp at hx⟩
 |some ps=>obtain⟨a,n,c,h1,h2,_⟩:=h;exact⟨a,n,c,h1,h2⟩
theorem bH_ {p:Po}{vol file:ByteArray}(hp:Ai p=true):Ae ((BK p.vs vol file).getD [])=true:=by
 cases h:BK p.vs vol file with
 |none=>rfl
 |some ps=>exact (bb_ hp h).1
end
section
open Go Go.RowKit
variable{d:ByteArray}{size:Int}
theorem hZ_:∀ (a b:List Ex),KN (a++b)=KN a+KN b
 |[],b=>by simp[KN]
 |e::r,b=>by simp only[YF,KN,hZ_ r b];omega
theorem h0_ (hd:At d=true):∀ {l:List Ex} {next:Int} (k j:Nat) (x:Int),xgo size next l=true->DH size d.size k next l=some (j,x)->
  k<=j∧next<=x∧j-k<=l.length∧xgo size next (l.take (j-k)++⟨x,d⟩::l.drop (j-k))=true∧Fd x (l.take (j-k)++⟨x,d⟩::l.drop (j-k))=l
 |[],next,k,j,x,h,hp=>by
  rw[DH] at hp;split at hp
  ·rename_i hm;simp only[Zo,Prod.mk.injEq] at hp;obtain⟨rfl,rfl⟩:=hp;refine⟨Zd _,sH,sK,?_,?_⟩
   ·simp[xgo,hd];omega
   ·simp[Fd]
  ·cases hp
 |e::r,next,k,j,x,h,hp=>by
  rw[DH] at hp;have h0:=h;simp only[xgo,Zf,ZU] at h;obtain⟨⟨⟨h1,h2⟩,h3⟩,h4⟩:=h;have hb:=bl_ h1;have hc:=bl_ hd;split at hp
  ·rename_i hm;simp only[Zo,Prod.mk.injEq] at hp;obtain⟨rfl,rfl⟩:=hp
   have hx:xgo size (next+d.size) (e::r)=true:=by
    simp only[xgo,Zf,ZU];exact⟨⟨⟨h1,sH⟩,h3⟩,h4⟩
   refine⟨Zd _,sH,sK,?_,?_⟩
   ·rw[Nat.sub_self,Yx,YC,ZM,xgo];simp only[Zf,ZU];exact⟨⟨⟨hd,sH⟩,sH⟩,hx⟩
   ·rw[Nat.sub_self,Yx,YC,ZM];have e1:Fd next (⟨next,d⟩::e::r)=Fd next (e::r):=by simp[Fd]
    rw[e1];exact fe_ hx sH
  ·obtain⟨q1,q2,q3,q4,q5⟩:=h0_ hd (k+1) j x h4 hp;have ej:j-k=(j-(k+1))+1:=sH;rw[ej];refine⟨sH,sH,sN,?_,?_⟩
   ·rw[ZP,ZR,YF,xgo];simp only[Zf,ZU];exact⟨⟨⟨h1,h2⟩,h3⟩,q4⟩
   ·rw[ZP,ZR,YF];have ha:(e.a==x)=false:=ZV.2 sH;have e1:∀ m:List Ex,Fd x (e::m)=e::Fd x m:=fun m=>by simp[Fd,ha]
    rw[e1,q5]
theorem jC_ {x:Int}{l L:List Ex}(h:Eo size l d=some (L,x)):
  Af size l=true∧At d=true∧Af size L=true∧L.length=l.length+1∧l.length<60∧NE size L x=some l∧KN L=KN l+d.size∧∀ e∈L,e∈l∨e=⟨x,d⟩:=by
 rw[<-hE_] at h;unfold BX at h;split at h
 ·rename_i hc;obtain⟨hf,hd,hg⟩:=hc;obtain⟨h1,h2,h3,h4⟩:=cu_ hf
  cases hp:DH size d.size 0 1 l with
  |none=>rw[hp] at h;cases h
  |some y=>
   obtain⟨j,x'⟩:=y;rw[hp] at h;simp only[Option.map_some,Zo,Prod.mk.injEq] at h;obtain⟨rfl,rfl⟩:=h;obtain⟨q1,q2,q3,q4,q5⟩:=h0_ hd 0 j x' h4 hp;rw[Nat.sub_zero] at q3 q4 q5;have eL:l.take j++[⟨x',d⟩]++l.drop j=l.take j++⟨x',d⟩::l.drop j:=sK;rw[eL];have hb:(l.take j++⟨x',d⟩::l.drop j:List Ex).length=l.length+1:=sN;have ha:Af size (l.take j++⟨x',d⟩::l.drop j)=true:=by
    simp only[Af,Zf,ZU];exact⟨⟨⟨h1,h2⟩,sH⟩,q4⟩
   refine⟨hf,hd,ha,hb,sH,?_,?_,?_⟩
   ·unfold NE;rw[if_pos ⟨ha,by rw[q5];omega⟩,q5]
   ·rw[hZ_]
    conv=>rhs;rw[<-YM j l,hZ_]
    simp only[KN];omega
   ·intro e he;rcases Zs.1 he with he | he
    ·exact .inl (ZX he)
    ·rcases Zn.1 he with he | he
     ·exact .inr he
     ·exact .inl (List.mem_of_mem_drop he)
 ·cases h
end
section
open Go Go.RowKit Go.BigFrame Tryz
variable{α:Type}{s t:Int}{l:List Pt}{b m2 m3 m4 m5 n n2 n3 n4 n5:Nat}{c2 c3 c4 c5:Option Addr}{ty:TypeId}{w:World}
theorem qb_ {o:Nat}(h:BH w (some ⟨b,o,none⟩) n l)(hl:l≠[]):¬ Blk w b #[.int .i64 s,.int .i64 t,.slice c2 n2 m2,.slice c3 n3 m3,.slice c4 n4 m4,.slice c5 n5 m5] ty:=by
 intro C
 cases l with
 |nil=>exact hl rfl
 |cons p r=>
  obtain⟨b',o',e,hc⟩:=h.cell 0 p rfl
  cases e;have q2:=hc 2 (.int .i64 p.n) rfl;rw[C.cell,Nat.zero_mul,Nat.add_zero] at q2
  match o,q2 with
  |0,q2=>simp at q2
  |1,q2=>simp at q2
  |2,q2=>simp at q2
  |3,q2=>simp at q2
  |o+4,q2=>simp at q2
theorem kV_ {qa:Option Addr}(h:BH w qa n l)(C:Blk w b #[.int .i64 s,.int .i64 t,.slice c2 n2 m2,.slice c3 n3 m3,.slice c4 n4 m4,.slice c5 n5 m5] ty)(j:Nat)(v:Value):BH (w.setCell ⟨b,j,none⟩ v) qa n l:=by
 by_cases hl:l=[]
 ·subst hl;exact⟨h.len,fun i x hx=>by simp at hx⟩
 ·refine h.grown (CE w b j v) (fun ad e hb=>?_);subst e;obtain⟨b',o',e,_⟩:=h.cell 0 _ (ZI (List.length_pos_iff.2 hl))
  cases e;simp only at hb;subst hb;exact qb_ h hl C
theorem Ac.addrN {cs:α->List Value}{sz:Nat}{t:TypeId}{B cap:Nat}{a:Option Addr}{l:List α}(h:Ac cs sz t w B a n cap l)(hn:a≠none):∃ b,a=some ⟨b,0,none⟩∧n<=cap:=by
 rcases h.own with⟨h0,_⟩ | ⟨b,h1,_,h3,_⟩
 ·exact absurd h0 hn
 ·exact⟨b,h1,h3⟩
end
section
open Go Go.RowKit Go.BigFrame Tryz
variable{size:Int}
theorem oM_:∀ {L:List Ex} {next:Int},xgo size next L=true->1<=next->∀ x∈ggo size next L,1<=x.1∧x.1<=size
 |[],next,_,h1,x,hx=>by
  unfold ggo at hx;split at hx
  ·simp at hx;subst hx;exact⟨h1,rQ⟩
  ·cases hx
 |e::r,next,h,h1,x,hx=>by
  simp only[xgo,Zf,ZU] at h;have ha:=bl_ h.1.1.1;unfold ggo at hx;rcases Zs.1 hx with hx | hx
  ·split at hx
   ·simp at hx;subst hx;simp only;omega
   ·cases hx
  ·exact oM_ h.2 sH x hx
theorem gw_ {a:Int}{l L:List Ex}{d:ByteArray}(h:Eo size l d=some (L,a)):1<=a∧a<=400:=by
 unfold Eo at h;split at h
 ·rename_i hc;obtain⟨s1,s2,_,hx⟩:=cu_ hc.1
  cases hf:(ggo size 1 l).find? (fun x=>decide ((d.size:Int)<=x.2)) with
  |none=>rw[hf] at h;simp at h
  |some y=>
   rw[hf] at h;simp at h;have:=oM_ hx sH y (List.mem_of_find?_eq_some hf);omega
 ·cases h
theorem mU_ {fr to:Int}:∀ {l:List Pt} {st:Int},(slp fr to st l).length<=l.length
 |[],_=>Zd _
 |p::r,st=>by
  have:=mU_ (fr:=fr) (to:=to) (l:=r) (st:=st+p.n)
  unfold slp;split
  ·simp only[Zw];omega
  ·simp only[Zw];omega
theorem h1_:∀ {m l:List Pt},(Aw l m).length<=l.length+m.length
 |[],l=>Zd _
 |p::r,l=>by
  have h1:=h1_ (m:=r) (l:=BG l p);have h2:=fL_ l p;show (Aw (BG l p) r).length<=_;simp only[Zw];omega
theorem nG_ {q:List Pt}(h:Ae q=true)(fr to:Int):Ae (Aw [] (slp fr to 0 q))=true:=by
 have ha:=(ae_ h).1;have hl:=mU_ (fr:=fr) (to:=to) (l:=q) (st:=0);have hm:Ae (slp fr to 0 q)=true:=by
  unfold Ae;rw[b8_ h fr to];simp;omega
 rw[iw_ (l:=[]) rfl hm];have hs:=(ae_ hm).2.2;have hj:=h1_ (m:=slp fr to 0 q) (l:=[]);simp only[YK] at hj;simp[Ar];omega
end
section
open Go Go.RowKit
variable{l:List Vo}{o:Opr}{p:Po}
theorem f8_ (h:KV l):Cx (A9 l):=by
 intro c hc;rcases eI_ hc with⟨d,hd,_⟩ | ⟨d,hd,e⟩
 ·cases hd
 ·rw[e];unfold BI at hd;obtain⟨v,hv,hd⟩:=ZL.1 hd;unfold J6 at hd;obtain⟨x,hx,hd⟩:=ZL.1 hd;unfold AX at hd;obtain⟨p,_,rfl⟩:=ZT.1 hd;exact ((h v hv).2.2 x hx).1
theorem mV_ {l:List Ct}(h:Cx l):Cx (Jn l):=by
 intro c hc;obtain⟨d,hd,rfl⟩:=ZT.1 hc;exact h d hd
def WS (l:List Vo):Prop:=Pm l∧KV l
def Vd (x:It):Prop:=x.nm.size<=9223372036854775807∧x.ps.length<=1000∧Gh x.ps
def RO (v:Vo):Prop:=v.nm.size<=9223372036854775807∧v.its.length<=6∧∀ x∈v.its,Vd x
theorem iY_ (h7:l.length<=7)(h:∀ v∈l,RO v):WS l:=
 ⟨⟨h7,fun v hv=>⟨(h v hv).2.1,fun x hx=>⟨((h v hv).2.2 x hx).2.1,((h v hv).2.2 x hx).2.2⟩⟩⟩,fun v hv=>⟨(h v hv).1,by have:=(h v hv).2.1;omega,fun x hx=>⟨((h v hv).2.2 x hx).1,by have:=((h v hv).2.2 x hx).2.1;omega⟩⟩⟩
theorem mW_ (h:Ii l)(hs:KV l):∀ v∈l,RO v∧v.its.length<=5:=fun v hv=>
 ⟨⟨(hs v hv).1,by have:=(h.2 v hv).1;omega,fun x hx=>⟨((hs v hv).2.2 x hx).1,by have:=((h.2 v hv).2 x hx).1;omega,((h.2 v hv).2 x hx).2⟩⟩,(h.2 v hv).1⟩
theorem oN_ (hp:Ai p=true):Gh (Bb p o).2.2:=by
 have hq:∀ {vol file:ByteArray},Gh ((BK p.vs vol file).getD []):=fun {vol file}=>on_ (bH_ hp);unfold Bb;simp only;split
 ·split
  ·exact dD_
  ·rename_i l a hpl;refine fS_ hq (fun q ha=>?_);simp at ha;subst ha;have:=gw_ hpl;simp only;omega
 ·split
  ·split
   ·exact dD_
   ·rename_i src hs;split
    ·exact dD_
    ·exact fS_ hq (cg_ dD_ (gk_ (on_ (bb_ hp hs).1)))
  ·split
   ·exact dD_
   ·rename_i q hs;have hn:Gh q:=on_ (bb_ hp hs).1;split
    ·exact fS_ hn (fun q ha=>by simp at ha;subst ha;exact YB _)
    ·split
     ·exact fS_ hn (fun q ha=>by simp at ha;subst ha;exact YB _)
     ·exact cg_ dD_ (gk_ hn)
theorem pM_ (hp:Ai p=true)(hd:A7 p)(hf:o.file.size<=9223372036854775807)(hi:o.into.size<=9223372036854775807)(hl:(Bb p o).2.2.length<=1000):WS (Dn p o).2.vs:=by
 obtain⟨_,_,ht,_⟩:=aQ_ hp;have hv:=mW_ ht hd.2.2.2.1;have ha:WS p.vs:=iY_ (by have:=ht.1;omega) (fun v h=>(hv v h).1);unfold Dn;simp only;split
 ·exact ha
 ·split
  ·exact ha
  ·rename_i i _ v hvi;split
   ·exact ha
   ·split
    ·refine iY_ (by rw[List.length_set];have:=ht.1;omega) (fun u hu=>?_);rcases List.mem_or_eq_of_mem_set hu with hu | rfl
     ·exact (hv u hu).1
     ·have hb:=hv v (Zc hvi);refine⟨hb.1.1,?_,fun x hx=>?_⟩
      ·have:=kw_ ⟨if o.k=5 then o.into else o.file,(Bb p o).2.2⟩ v.its;simp only;omega
      ·rcases kx_ hx with rfl | hx
       ·refine⟨?_,hl,oN_ hp⟩;simp only;split<;>assumption
       ·exact hb.1.2.2 x hx
    ·exact ha
theorem qc_ (hp:Ai p=true)(hd:A7 p)(hv0:o.vol.size<=9223372036854775807)(ht0:o.to.size<=9223372036854775807):WS (CS p o).2.vs:=by
 obtain⟨_,_,ht,_⟩:=aQ_ hp;have hv:=mW_ ht hd.2.2.2.1;have h6:=ht.1;have ha:WS p.vs:=iY_ sH (fun v h=>(hv v h).1)
 have he:∀ (i:Nat) (y:Vo),RO y->WS (p.vs.set i y):=fun i y hy=>iY_ (by rw[List.length_set];omega) (fun u hu=>by
  rcases List.mem_or_eq_of_mem_set hu with hu | rfl
  ·exact (hv u hu).1
  ·exact hy)
 have hc:∀ y:Vo,RO y->WS (p.vs++[y]):=fun y hy=>iY_ sN (fun u hu=>by
  rcases Zs.1 hu with hu | hu
  ·exact (hv u hu).1
  ·simp at hu;subst hu;exact hy)
 unfold CS;split
 ·split
  ·exact hc _ ⟨hv0,sK,fun x hx=>by cases hx⟩
  ·exact ha
 ·split
  ·exact ha
  ·rename_i i _ v hvi;have hb:=(hv v (Zc hvi)).1;split
   ·exact ha
   ·split
    ·split
     ·exact ha
     ·exact hc _ ⟨ht0,hb.2.1,hb.2.2⟩
    ·split
     ·refine iY_ sN (fun u hu=>?_);rcases Zs.1 hu with hu | hu
      ·exact (hv u (ZX hu)).1
      ·exact (hv u (List.mem_of_mem_drop hu)).1
     ·split
      ·split
       ·exact ha
       ·exact he _ _ ⟨hb.1,hb.2.1,hb.2.2⟩
      ·split
       ·split
        ·exact ha
        ·split
         ·exact ha
         ·refine he _ _ ⟨hb.1,?_,fun x hx=>?_⟩
          ·have:=hb.2.1;simp only[ZE,Zz,List.length_drop];omega
          ·rcases Zs.1 hx with hx | hx
           ·exact hb.2.2 x (ZX hx)
           ·exact hb.2.2 x (List.mem_of_mem_drop hx)
       ·exact ha
end
section
open Go Go.RowKit Go.BigFrame Tryz
variable{r:IR}{y:It}{rows:List IR}{l:List It}{B k:Nat}{w:World}
theorem AV.ins (hk:k<=rows.length)(h:AV B w rows l)(h':EL B w r y):AV B w (rows.take k++[r]++rows.drop k) (l.take k++[y]++l.drop k):=by
 have hl:=h.len;refine⟨oA,fun i q z h1 h2=>?_⟩;have e1:(rows.take k).length=k:=sN;have e2:(l.take k).length=k:=sN;rw[ZC] at h1 h2;by_cases hi:i<k
 ·rw[ZD sH,Ya hi] at h1 h2;exact h.at' i q z h1 h2
 ·rw[Zv sH] at h1 h2;rw[e1] at h1;rw[e2] at h2;by_cases hik:i=k
  ·subst hik;rw[Nat.sub_self] at h1 h2;simp at h1 h2;subst h1 h2;exact h'
  ·obtain⟨j,hj⟩:∃ j,i-k=j+1:=⟨i-k-1,sH⟩;rw[hj] at h1 h2;simp only[List.singleton_append,Yt,List.getElem?_drop] at h1 h2;exact h.at' (k+j) q z h1 h2
end
end Go.Proofs.YteejlahappbalaaGreatDoor
