/- An order carried out: a flush. -/
import Derived.Test.YtahenegmbmnmjaaGreatDoorU22
set_option maxHeartbeats 20000000
set_option maxRecDepth 100000
namespace Go.Proofs.YtahenegmbmnmjaaGreatDoor
section
open Go Go.RowKit Go.BigFrame Tryz
variable{r:IR}{y:It}{e:List Ex}{rows:List IR}{B cap2 n2:Nat}{a2:Option Addr}{p:Po}{w3 wr:World}
theorem cB_ (B:Nat)(id:Int)(nm:ByteArray)(fx:Bool)(its:List It)(ia:Option Addr)(inn icp:Nat)(irows:List IR)(name:ByteArray)(pa:Option Addr)(pn pc:Nat)(ps:List Pt)(w:World)
  (R:Ae irs 2 125 w B ia inn icp irows)(T:AE B w irows its)(RP:Ae Pt.cs 3 201 w B pa pn pc ps)(hn:inn<=4194304):
  Calls prog 168 #[.agg #[.int .i64 id,.string nm,.bool fx,.slice ia inn icp],.string name,.slice pa pn pc] w fun e w'=>(∃ a2 n2 cap2 rows,e=.returned (.agg #[.int .i64 id,.string nm,.bool fx,.slice a2 n2 cap2])∧Ae irs 2 125 w' w.heap.size a2 n2 cap2 rows∧AE B w' rows (Ba ⟨name,ps⟩ its))∧Below w.heap.size w w':=by
 have hm:Hid (its.length=inn):=by show _=_;rw[<-T.len];exact R.sl.len
 have hz:irows.length=inn:=R.sl.len;go_enter func168,ntmps168
 go_wp2_with fail
 go_loopw [7,9,10] (fun lst dn ix wr=>∃ (k:Nat) (a2:Option Addr) (n2 cap2:Nat) (rows:List IR),k<=inn∧ix=.int .i64 k∧dn=.bool (DY ⟨name,ps⟩ its k).2∧lst=.slice a2 n2 cap2∧n2<=2*k∧Ae irs 2 125 wr (w.heap.size+2) a2 n2 cap2 rows∧AE B wr rows (DY ⟨name,ps⟩ its k).1∧EI w B a2 id nm fx ia inn icp name pa pn pc wr) (fun _ _ ix _=>inn-(intOf ix).toNat)
 case atStart=>exact⟨0,_,0,0,[],Zg _,rfl,rfl,rfl,by omega,aw_ ((Blk.new' _ _ _ _ (by simp)).alloc _) (by omega),AE.nil _ _,⟨fun ad e=>(by cases e;simp only[ne_eq];omega),(((Blk.new w _ _).alloc _).alloc _).alloc _,((Blk.new' _ _ _ _ (by simp)).alloc _).alloc _,Blk.new' _ _ _ _ (by simp),by simp,by go_grown⟩⟩
 case round=>
  obtain⟨k,a2,n2,cap2,rows,hk,rfl,rfl,rfl,hG,R2,T2,E⟩:=hrel;obtain⟨z0,z1,z2,z3⟩:=E.b0.four;have x0:wr.cell? ⟨w.heap.size+3,0,none⟩=some (.string name):=E.b3.cell 0;have x1:wr.cell? ⟨w.heap.size+3,1,none⟩=some (.slice pa pn pc):=E.b3.cell 1;have hH:=E.sz;have V0:BY B wr (⟨name,pa,pn,pc⟩:IR) ⟨name,ps⟩:=⟨rfl,RP.below E.bl⟩;by_cases hlt:k<inn
  ·have hr:irows[k]?=some (irows[k]'(by omega)):=by simp[hz,hlt]
   have hy:its[k]?=some (its[k]'(by rw[hm.out];exact hlt)):=by simp[hm.out,hlt]
   have hB:=hr;have hV:=(T.below E.bl).at' k _ _ hr hy;obtain⟨b,o,rfl,hc⟩:=(R.sl.below E.bl).cell k _ hr;generalize irows[k]'(by omega)=r at *;generalize its[k]'(by rw[hm.out];exact hlt)=y at *;obtain⟨rn,qa,qn,qc⟩:=r;have c0:wr.cell? ⟨b,o+k*2,none⟩=some (.string rn):=hc 0 _ rfl;have c1:wr.cell? ⟨b,o+k*2+1,none⟩=some (.slice qa qn qc):=hc 1 _ rfl;have hf:Hid (DY ⟨name,ps⟩ its (k+1)=Bi ⟨name,ps⟩ (DY ⟨name,ps⟩ its k) y):=nq_ hy;have hC:rn=y.nm:=hV.nm;subst hC;clear hc hr hy;have hE:(k:Int)<inn:=by omega
   have hF:(0:Int)<=k:=by omega
   generalize DY ⟨name,ps⟩ its k=G at *;obtain⟨gl,d⟩:=G;simp only at T2 ⊢
   have hu:b<w.heap.size+2:=by
    have:=Yk w (⟨b,o+k*2,none⟩:Addr) (u:=.string y.nm) (by
     obtain⟨b',o',hw,hx⟩:=R.sl.cell k _ hB;obtain⟨rfl,rfl⟩:b=b'∧o=o':=by simpa using hw
     exact hx 0 _ rfl)
    simp only at this;omega
   cases d
   ·cases hh:bl y.nm.toList name.toList
    ·cases hb:(y.nm.toList==name.toList)
     ·have he:Hid (Bi ⟨name,ps⟩ (gl,false) y=(gl++[⟨name,ps⟩]++[y],true)):=by show _=_;simp[Bi,hh,hb]
      have hq:¬ y.nm.toList=name.toList:=by simpa using hb
      go_wp2_with (first | (at_builtin;refine ag_ rfl (fun K hK=>b1_ _ _ rfl (w.heap.size+2) a3 (n2+1) cap3 (rows++[(⟨name,pa,pn,pc⟩:IR)]) rfl (R3.alloc _) _ _ (⟨y.nm,qa,qn,qc⟩:IR) rfl (cd_ _ (⟨y.nm,qa,qn,qc⟩:IR) _ _ (by simp)) (by omega) (by simp;omega) (fun a4 cap4 w4 R4 hv hA=>hK _ _ ?_));have E4:=E3.app R3 hv hA;have hD:=E4.sz) | (at_builtin;refine ag_ rfl (fun K hK=>b1_ _ _ rfl (w.heap.size+2) a2 n2 cap2 rows rfl (R2.alloc _) _ _ (⟨name,pa,pn,pc⟩:IR) rfl (cd_ _ (⟨name,pa,pn,pc⟩:IR) _ _ (by simp)) (by omega) (by simp;omega) (fun a3 cap3 w3 R3 ha hj=>hK _ _ ?_));have E3:=E.app R2 ha hj;have hl:=E3.sz;have z3:w3.cell? ⟨w.heap.size,3,none⟩=some (.slice (some ⟨b,o,none⟩) inn icp):=E3.b0.cell 3;have c03:=ha.cell (Ah _ c0) (at_ (fun ad ho=>(R2.block ad ho).1) hu);have c13:=ha.cell (Ah _ c1) (at_ (fun ad ho=>(R2.block ad ho).1) hu)))
      go_wp2;go_roundw
      case rel=>exact⟨k+1,a4,(n2+1+1),cap4,_,by omega,by go_num,by rw[hf.out,he.out],rfl,by omega,R4,by rw[hf.out,he.out];exact ((T2.app V0 R2 ha).app (hV.app R2 ha) R3 hv),E4⟩
      case measure=>simp[intOf];omega
     ·have he:Hid (Bi ⟨name,ps⟩ (gl,false) y=(gl++[⟨name,ps⟩],true)):=by show _=_;simp[Bi,hh,hb]
      have hq:y.nm.toList=name.toList:=by simpa using hb
      have hg:=hh;rw[hq] at hg
      go_wp2_with (at_builtin;refine ag_ rfl (fun K hK=>b1_ _ _ rfl (w.heap.size+2) a2 n2 cap2 rows rfl (R2.alloc _) _ _ (⟨name,pa,pn,pc⟩:IR) rfl (cd_ _ (⟨name,pa,pn,pc⟩:IR) _ _ (by simp)) (by omega) (by simp;omega) (fun a3 cap3 w3 R3 ha hj=>hK _ _ ?_));have E3:=E.app R2 ha hj;have hl:=E3.sz;have z3:w3.cell? ⟨w.heap.size,3,none⟩=some (.slice (some ⟨b,o,none⟩) inn icp):=E3.b0.cell 3;have c03:=ha.cell (Ah _ c0) (at_ (fun ad ho=>(R2.block ad ho).1) hu);have c13:=ha.cell (Ah _ c1) (at_ (fun ad ho=>(R2.block ad ho).1) hu))
      go_wp2;go_roundw
      case rel=>exact⟨k+1,a3,(n2+1),cap3,_,by omega,by go_num,by rw[hf.out,he.out],rfl,by omega,R3,by rw[hf.out,he.out];exact (T2.app V0 R2 ha),E3⟩
      case measure=>simp[intOf];omega
    ·cases hb:(y.nm.toList==name.toList)
     ·have he:Hid (Bi ⟨name,ps⟩ (gl,false) y=(gl++[y],false)):=by show _=_;simp[Bi,hh,hb]
      have hq:¬ y.nm.toList=name.toList:=by simpa using hb
      go_wp2_with (at_builtin;refine ag_ rfl (fun K hK=>b1_ _ _ rfl (w.heap.size+2) a2 n2 cap2 rows rfl (R2.alloc _) _ _ (⟨y.nm,qa,qn,qc⟩:IR) rfl (cd_ _ (⟨y.nm,qa,qn,qc⟩:IR) _ _ (by simp)) (by omega) (by simp;omega) (fun a3 cap3 w3 R3 ha hj=>hK _ _ ?_));have E3:=E.app R2 ha hj;have hl:=E3.sz)
      go_wp2;go_roundw
      case rel=>exact⟨k+1,a3,(n2+1),cap3,_,by omega,by go_num,by rw[hf.out,he.out],rfl,by omega,R3,by rw[hf.out,he.out];exact (T2.app hV R2 ha),E3⟩
      case measure=>simp[intOf];omega
     ·have he:Hid (Bi ⟨name,ps⟩ (gl,false) y=(gl,false)):=by show _=_;simp[Bi,hh,hb]
      have hq:y.nm.toList=name.toList:=by simpa using hb
      have hg:=hh;rw[hq] at hg;go_wp2;go_roundw
      case rel=>exact⟨k+1,a2,n2,cap2,rows,by omega,by go_num,by rw[hf.out,he.out],rfl,by omega,R2,by rw[hf.out,he.out];exact T2,E⟩
      case measure=>simp[intOf];omega
   ·cases hh:bl y.nm.toList name.toList
    ·cases hb:(y.nm.toList==name.toList)
     ·have he:Hid (Bi ⟨name,ps⟩ (gl,true) y=(gl++[y],true)):=by show _=_;simp[Bi,hh,hb]
      have hq:¬ y.nm.toList=name.toList:=by simpa using hb
      go_wp2_with (at_builtin;refine ag_ rfl (fun K hK=>b1_ _ _ rfl (w.heap.size+2) a2 n2 cap2 rows rfl (R2.alloc _) _ _ (⟨y.nm,qa,qn,qc⟩:IR) rfl (cd_ _ (⟨y.nm,qa,qn,qc⟩:IR) _ _ (by simp)) (by omega) (by simp;omega) (fun a3 cap3 w3 R3 ha hj=>hK _ _ ?_));have E3:=E.app R2 ha hj;have hl:=E3.sz)
      go_wp2;go_roundw
      case rel=>exact⟨k+1,a3,(n2+1),cap3,_,by omega,by go_num,by rw[hf.out,he.out],rfl,by omega,R3,by rw[hf.out,he.out];exact (T2.app hV R2 ha),E3⟩
      case measure=>simp[intOf];omega
     ·have he:Hid (Bi ⟨name,ps⟩ (gl,true) y=(gl,true)):=by show _=_;simp[Bi,hh,hb]
      have hq:y.nm.toList=name.toList:=by simpa using hb
      have hg:=hh;rw[hq] at hg;go_wp2;go_roundw
      case rel=>exact⟨k+1,a2,n2,cap2,rows,by omega,by go_num,by rw[hf.out,he.out],rfl,by omega,R2,by rw[hf.out,he.out];exact T2,E⟩
      case measure=>simp[intOf];omega
    ·cases hb:(y.nm.toList==name.toList)
     ·have he:Hid (Bi ⟨name,ps⟩ (gl,true) y=(gl++[y],true)):=by show _=_;simp[Bi,hh,hb]
      have hq:¬ y.nm.toList=name.toList:=by simpa using hb
      go_wp2_with (at_builtin;refine ag_ rfl (fun K hK=>b1_ _ _ rfl (w.heap.size+2) a2 n2 cap2 rows rfl (R2.alloc _) _ _ (⟨y.nm,qa,qn,qc⟩:IR) rfl (cd_ _ (⟨y.nm,qa,qn,qc⟩:IR) _ _ (by simp)) (by omega) (by simp;omega) (fun a3 cap3 w3 R3 ha hj=>hK _ _ ?_));have E3:=E.app R2 ha hj;have hl:=E3.sz)
      go_wp2;go_roundw
      case rel=>exact⟨k+1,a3,(n2+1),cap3,_,by omega,by go_num,by rw[hf.out,he.out],rfl,by omega,R3,by rw[hf.out,he.out];exact (T2.app hV R2 ha),E3⟩
      case measure=>simp[intOf];omega
     ·have he:Hid (Bi ⟨name,ps⟩ (gl,true) y=(gl,true)):=by show _=_;simp[Bi,hh,hb]
      have hq:y.nm.toList=name.toList:=by simpa using hb
      have hg:=hh;rw[hq] at hg;go_wp2;go_roundw
      case rel=>exact⟨k+1,a2,n2,cap2,rows,by omega,by go_num,by rw[hf.out,he.out],rfl,by omega,R2,by rw[hf.out,he.out];exact T2,E⟩
      case measure=>simp[intOf];omega
  ·obtain rfl:k=inn:=by omega
   have ht:Hid (DW ⟨name,ps⟩ (DY ⟨name,ps⟩ its k)=Ba ⟨name,ps⟩ its):=om_ hm.out;generalize DY ⟨name,ps⟩ its k=G at *;obtain⟨gl,d⟩:=G;simp only at T2 ⊢
   cases d
   ·go_wp2_with (at_builtin;refine ag_ rfl (fun K hK=>b1_ _ _ rfl (w.heap.size+2) a2 n2 cap2 rows rfl (R2.alloc _) _ _ (⟨name,pa,pn,pc⟩:IR) rfl (cd_ _ (⟨name,pa,pn,pc⟩:IR) _ _ (by simp)) (by omega) (by simp;omega) (fun a3 cap3 w3 R3 ha hj=>hK _ _ ?_));have E3:=E.app R2 ha hj;have hl:=E3.sz;have g3:=E3.b0.frozen 3;obtain⟨u0,u1,u2,u3⟩:=E3.b0.four;have V1:=E3.b0.set 3 (.slice a3 (n2+1) cap3);have hs:=B3 w3 w.heap.size 3 (.slice a3 (n2+1) cap3);have D1:=E3.b1.other ⟨w.heap.size,3,none⟩ (.slice a3 (n2+1) cap3) (by simp only[ne_eq];omega);have V2:Blk (w3.setCell ⟨w.heap.size,3,none⟩ (.slice a3 (n2+1) cap3)) w.heap.size #[.int .i64 id,.string nm,.bool fx,.slice a3 (n2+1) cap3] 62:=(by simpa using V1);have RR:=R3.ty hs (aa_ E3.b0) (by decide);have TT:=(T2.app V0 R2 ha).ty hs (aa_ E3.b0) (by decide);have BB:=E3.bl.setCell (p:=⟨w.heap.size,3,none⟩) (Zd _) (.slice a3 (n2+1) cap3);obtain⟨v0,v1,v2,v3⟩:=V2.four;have m0:=D1.frozen 0;have m1:=D1.frozen 1;have m2:=D1.frozen 2;have m3:=D1.frozen 3;obtain⟨n0,n1,n2',n3⟩:=D1.four;obtain⟨W0,hp⟩:=HV D1 (.int .i64 id) (.string nm) (.bool fx) (.slice a3 (n2+1) cap3);have R0:=RR.ty hp (aa_ D1) (by decide);have T0:=TT.ty hp (aa_ D1) (by decide);have B1:=BB.grown hp BB.size (fun j e=>by cases e;omega);clear V1 V2 D1 RR TT BB hs)
    generalize ((((w3.setCell ⟨w.heap.size,3,none⟩ (.slice a3 (n2+1) cap3)).setCell ⟨w.heap.size+1,0,none⟩ (.int .i64 id)).setCell ⟨w.heap.size+1,1,none⟩ (.string nm)).setCell ⟨w.heap.size+1,2,none⟩ (.bool fx)).setCell ⟨w.heap.size+1,3,none⟩ (.slice a3 (n2+1) cap3)=W8 at *;refine YW (results_cell_row rfl _ W8 (w.heap.size+1) _ _ _ _ rfl W0 underlying62 rfl (by kernel_rfl)) rfl ?_;exact⟨⟨a3,(n2+1),cap3,_,rfl,R0.mono (by omega),by rw[<-ht.out];simp only[DW];exact T0⟩,B1⟩
   ·have g3:=E.b0.frozen 3;obtain⟨u0,u1,u2,u3⟩:=E.b0.four;have V1:=E.b0.set 3 (.slice a2 n2 cap2);have hs:=B3 wr w.heap.size 3 (.slice a2 n2 cap2);have D1:=E.b1.other ⟨w.heap.size,3,none⟩ (.slice a2 n2 cap2) (by simp only[ne_eq];omega);have V2:Blk (wr.setCell ⟨w.heap.size,3,none⟩ (.slice a2 n2 cap2)) w.heap.size #[.int .i64 id,.string nm,.bool fx,.slice a2 n2 cap2] 62:=by simpa using V1
    have RR:=R2.ty hs (aa_ E.b0) (by decide);have TT:=T2.ty hs (aa_ E.b0) (by decide);have BB:=E.bl.setCell (p:=⟨w.heap.size,3,none⟩) (Zd _) (.slice a2 n2 cap2);obtain⟨v0,v1,v2,v3⟩:=V2.four;have m0:=D1.frozen 0;have m1:=D1.frozen 1;have m2:=D1.frozen 2;have m3:=D1.frozen 3;obtain⟨n0,n1,n2',n3⟩:=D1.four;obtain⟨W0,hp⟩:=HV D1 (.int .i64 id) (.string nm) (.bool fx) (.slice a2 n2 cap2);have R0:=RR.ty hp (aa_ D1) (by decide);have T0:=TT.ty hp (aa_ D1) (by decide);have B1:=BB.grown hp BB.size (fun j e=>by cases e;omega);clear V1 V2 D1 RR TT BB hs;go_wp2;generalize ((((wr.setCell ⟨w.heap.size,3,none⟩ (.slice a2 n2 cap2)).setCell ⟨w.heap.size+1,0,none⟩ (.int .i64 id)).setCell ⟨w.heap.size+1,1,none⟩ (.string nm)).setCell ⟨w.heap.size+1,2,none⟩ (.bool fx)).setCell ⟨w.heap.size+1,3,none⟩ (.slice a2 n2 cap2)=W8 at *;refine YW (results_cell_row rfl _ W8 (w.heap.size+1) _ _ _ _ rfl W0 underlying62 rfl (by kernel_rfl)) rfl ?_;exact⟨⟨a2,n2,cap2,_,rfl,R0.mono (by omega),by rw[<-ht.out];simp only[DW];exact T0⟩,B1⟩
end
section
open Go Go.RowKit
variable{B at' y:Int}{l m:List Pt}{p x:Pt}
theorem aX_ {q:Option Pt}{r:List Pt}:pgo q B (p::r)=true↔Ag p=true∧p.n<=B∧(∀ x,q=some x->Ax x p=false)∧pgo (some p) (B-p.n) r=true:=by
 cases q with
 |none=>simp[pgo,and_assoc]
 |some x=>simp[pgo,and_assoc]
theorem nE_ (l:List Pt):∀ (acc:List Pt) (q:Pt) (B:Int),acc.getLast?=some q->pgo (some q) B l=true->Al acc l=acc++l:=by
 induction l with
 |nil=>intro acc q B _ _;simp[Al]
 |cons p r ih=>
  intro acc q B hl h;obtain⟨h1,h2,h3,h4⟩:=aX_.1 h;have e:AJ acc p=acc++[p]:=by simp[AJ,hl,h3 q rfl]
  show Al (AJ acc p) r=_;rw[e,ih (acc++[p]) p _ (by simp) h4];simp
theorem fD_ (h:pgo none B l=true):Al [] l=l:=by
 cases l with
 |nil=>rfl
 |cons p r=>
  obtain⟨_,_,_,h4⟩:=aX_.1 h;show Al (AJ [] p) r=_;have e:AJ [] p=[p]:=rfl;rw[e,nE_ r [p] p _ rfl h4];rfl
theorem f4_ (l:List Pt):∀ (q:Option Pt) (B c:Int),pgo q B l=true->Af l<=c->0<=c->pgo q c l=true:=by
 induction l with
 |nil=>intro q B c _ _ _;cases q<;>rfl
 |cons p r ih=>
  intro q B c h hs hc;obtain⟨h1,h2,h3,h4⟩:=aX_.1 h;simp only[Af] at hs;have ha:=cH_ r (some p) (B-p.n) (by omega) h4;have hr:=az_ r ha.1;exact aX_.2 ⟨h1,by omega,h3,ih (some p) (B-p.n) (c-p.n) h4 (by omega) (by omega)⟩
theorem kS_ (l:List Pt):∀ (q:Option Pt) (B:Int) (p:Pt),pgo q B l=true->Ag p=true->Af l+p.n<=B->(∀ x,(l.getLast?.or q)=some x->Ax x p=false)->pgo q B (l++[p])=true:=by
 induction l with
 |nil=>
  intro q B p _ hp hs hx;simp only[Af] at hs;exact aX_.2 ⟨hp,by omega,fun x hq=>hx x (by simpa using hq),rfl⟩
 |cons y r ih=>
  intro q B p h hp hs hx;obtain⟨h1,h2,h3,h4⟩:=aX_.1 h;simp only[Af] at hs;refine aX_.2 ⟨h1,h2,h3,ih (some y) (B-y.n) p h4 hp (by omega) ?_⟩;intro x ha;refine hx x ?_
  cases r with
  |nil=>simpa using ha
  |cons z t=>
   obtain⟨v,hv⟩:∃ v,(z::t).getLast?=some v:=⟨_,List.getLast?_cons⟩;rw[hv] at ha;rw[List.getLast?_cons_cons,hv];exact ha
theorem oJ_ (l:List Pt):∀ (q:Option Pt) (B:Int) (p:Pt),pgo q B (l++[p])=true->pgo q B l=true∧Ag p=true∧Af l+p.n<=B∧(∀ x,(l.getLast?.or q)=some x->Ax x p=false):=by
 induction l with
 |nil=>
  intro q B p h;obtain⟨h1,h2,h3,_⟩:=aX_.1 h;exact⟨by cases q<;>rfl,h1,by simp only[Af];omega,fun x hx=>h3 x (by simpa using hx)⟩
 |cons y r ih=>
  intro q B p h;obtain⟨h1,h2,h3,h4⟩:=aX_.1 h;obtain⟨k1,k2,k3,k4⟩:=ih (some y) (B-y.n) p h4;refine⟨aX_.2 ⟨h1,h2,h3,k1⟩,k2,by simp only[Af];omega,?_⟩;intro x hx;refine k4 x ?_
  cases r with
  |nil=>simpa using hx
  |cons z t=>
   obtain⟨v,hv⟩:∃ v,(z::t).getLast?=some v:=⟨_,List.getLast?_cons⟩;rw[List.getLast?_cons_cons,hv] at hx;rw[hv];exact hx
theorem nF_ (hx:Ag x=true)(hp:Ag p=true)(hg:Ax x p=true):Ag ⟨x.a,x.f,x.n+p.n⟩=true:=by
 have h1:=av_ hx;have h2:=av_ hp;simp only[Ax,Zf,Bool.or_eq_true,beq_iff_eq] at hg;obtain⟨ha,hg⟩:=hg;unfold Ag at *;by_cases h0:x.a=0
 ·simp[h0] at hx ⊢;omega
 ·have hb:(x.a==0)=false:=by simp[h0]
  have hc:(p.a==0)=false:=by simp;omega
  simp only[hb,hc,Zj,if_false,Zf,ZU] at hx hp ⊢;rcases hg with hg | hg
  ·omega
  ·rw[fx_ (by omega) (by omega)] at hg;omega
theorem pL_ (h:pgo none B l=true)(hp:Ag p=true)(hs:Af l+p.n<=B)(hB:B<=1000)(h0:0<=B):pgo none B (AJ l p)=true∧Af (AJ l p)=Af l+p.n:=by
 rcases List.eq_nil_or_concat l with rfl | ⟨L,x,rfl⟩
 ·simp only[Af] at hs;exact⟨aX_.2 ⟨hp,by omega,fun x hx=>(by cases hx),rfl⟩,by simp[AJ,Af]⟩
 ·rw[List.concat_eq_append] at *;have hl:(L++[x]).getLast?=some x:=by simp
  cases hg:Ax x p
  ·have e:AJ (L++[x]) p=L++[x]++[p]:=by simp[AJ,hg]
   rw[e];exact⟨kS_ _ none B p h hp hs (fun y hy=>by simp at hy;subst hy;exact hg),by rw[a5_];simp[Af]⟩
  ·obtain⟨k1,k2,k3,k4⟩:=oJ_ L none B x h;rw[a5_] at hs;simp only[Af] at hs;have hL:=az_ L (cH_ L none B h0 k1).1;have hb:=av_ k2;have ha:=av_ hp
   have e:AJ (L++[x]) p=L++[⟨x.a,x.f,x.n+p.n⟩]:=by
    simp only[AJ,hl,hg,if_true,List.dropLast_concat];rw[fx_ (by omega) (by omega)]
   rw[e];refine⟨kS_ L none B _ k1 (nF_ k2 hp hg) (by show Af L+(x.n+p.n)<=B;omega) k4,?_⟩;rw[a5_,a5_];simp[Af];omega
theorem kT_ (m:List Pt):∀ (l:List Pt) (B:Int),pgo none B l=true->(∀ p∈m,Ag p=true)->Af l+Af m<=B->B<=1000->0<=B->pgo none B (Al l m)=true∧Af (Al l m)=Af l+Af m:=by
 induction m with
 |nil=>intro l B h _ _ _ _;exact⟨h,by simp[Al,Af]⟩
 |cons p t ih=>
  intro l B h hm hs hB h0;simp only[Af] at hs;have ht:=az_ t (fun q hq=>hm q (by simp[hq]));obtain⟨a1,a2⟩:=pL_ h (hm p (by simp)) (by omega) hB h0;obtain⟨b1,b2⟩:=ih (AJ l p) B a1 (fun q hq=>hm q (by simp[hq])) (by omega) hB h0;exact⟨b1,by show Af (Al (AJ l p) t)=_;rw[b2,a2];simp[Af];omega⟩
theorem f5_ (h:Ac l=true):pgo none 100 l=true:=by
 simp[Ac] at h;exact h.2
theorem iw_ (hl:Ac l=true)(hm:Ac m=true):Ac (Al l m)=decide (Af l+Af m<=100∧(Al l m).length<=16):=by
 have sl:=ae_ hl;have sm:=ae_ hm;have nl:=az_ l sl.2.1;have nm:=az_ m sm.2.1
 obtain⟨b1,b2⟩:=kT_ m l 200 (by
  have hp:=f5_ hl;exact f4_ l none 100 200 hp (by omega) (by omega)) sm.2.1 (by omega) (by omega) (by omega)
 rw[YH];simp only[Ac,Zf,ZU];constructor
 ·rintro⟨h1,h2⟩
  have:=cH_ _ none 100 (by omega) h2
  exact⟨by omega,h1⟩
 ·rintro⟨h1,h2⟩;exact⟨h2,f4_ _ none 200 100 b1 (by omega) (by omega)⟩
theorem kU_ {fr to:Int}(l:List Pt):∀ st,to<=st->(∀ p∈l,1<=p.n)->slp fr to st l=[]:=by
 induction l with
 |nil=>intro st _ _;rfl
 |cons p r ih=>
  intro st h hp
  have:=hp p (by simp)
  rw[fo_ (by omega)];exact ih _ (by omega) (fun q hq=>hp q (by simp[hq]))
theorem p9_ {x:Int}(h:Ag p=true)(h0:0<=x)(h1:x<y)(h2:y<=p.n):Ag (Be p x y)=true:=by
 unfold Ag at *;unfold Be;by_cases ha:p.a=0
 ·simp[ha];omega
 ·have hb:(p.a==0)=false:=by simp[ha]
  simp only[hb,Zj,if_false,Zf,ZU] at h ⊢;omega
def HK (x x':Pt):Prop:=x'.a=x.a∧(x.a=0∨x'.f+x'.n=x.f+x.n)
theorem oK_ {x':Pt}(ht:HK x x')(hg:Ax x p=false):Ax x' (Be p 0 y)=false:=by
 obtain⟨h1,h2⟩:=ht;unfold Ax at *;unfold Be;by_cases ha:p.a=0
 ·simp[ha] at hg ⊢;rw[h1];exact hg
 ·have hb:(p.a==0)=false:=by simp[ha]
  simp only[hb,Zj,if_false,Bool.false_or,Int.add_zero] at hg ⊢;rw[h1];rcases h2 with h2 | h2
  ·have:(p.a==x.a)=false:=by rw[h2];exact hb
   simp[this]
  ·rw[h2];exact hg
theorem qa_ (fr to:Int)(l:List Pt):∀ (st B:Int) (q q':Option Pt),0<=B->pgo q B l=true->(∀ x',q'=some x'->fr<=st∧∃ x,q=some x∧HK x x')->pgo q' B (slp fr to st l)=true:=by
 induction l with
 |nil=>intro st B q q' _ _ _;cases q'<;>rfl
 |cons p r ih=>
  intro st B q q' hB h hq;obtain⟨h1,h2,h3,h4⟩:=aX_.1 h;have hm:=av_ h1;have hg:=cH_ r (some p) (B-p.n) (by omega) h4;have hc:∀ y∈r,1<=y.n:=fun y hy=>av_ (hg.1 y hy);by_cases hx:max (fr-st) 0<min (to-st) p.n
  ·rw[eN_ rfl rfl hx];have hb:=mQ_ hx
   have he:pgo (some (Be p (max (fr-st) 0) (min (to-st) p.n))) (B-p.n) (slp fr to (st+p.n) r)=true:=by
    by_cases hy:p.n<=to-st
    ·refine ih (st+p.n) (B-p.n) (some p) _ (by omega) h4 ?_;intro x' hf;obtain rfl:=Zi hf;refine⟨by omega,p,rfl,?_⟩;unfold HK Be;by_cases ha:p.a=0
     ·simp[ha]
     ·have hj:(p.a==0)=false:=by simp[ha]
      simp only[hj,Zj,if_false];exact⟨trivial,.inr (by omega)⟩
    ·rw[kU_ r (st+p.n) (by omega) hc];rfl
   have hh:=hT_ fr to r (st+p.n) hc;refine aX_.2 ⟨p9_ h1 (by omega) hx (by omega),by omega,?_,f4_ _ _ _ _ he (by omega) (by omega)⟩;intro x' hf;obtain⟨hk,x,hl,ht⟩:=hq x' hf;have e:max (fr-st) 0=0:=by omega
   rw[e];exact oK_ ht (h3 x hl)
  ·rw[fo_ hx]
   cases q' with
   |some x'=>
    obtain⟨hk,_⟩:=hq x' rfl;rw[kU_ r (st+p.n) (by omega) hc];rfl
   |none=>
    have:=ih (st+p.n) (B-p.n) (some p) none (by omega) h4 (fun x' hf=>(by cases hf))
    have hh:=hT_ fr to r (st+p.n) hc;exact f4_ _ _ _ _ this (by omega) hB
theorem b8_ (h:Ac l=true)(fr to:Int):pgo none 100 (slp fr to 0 l)=true:=
 qa_ fr to l 0 100 none none (by omega) (f5_ h) (fun x' ha=>(by cases ha))
theorem b2_ (x a b:List Pt):Al (Al x a) b=Al x (a++b):=by simp[Al,List.foldl_append]
theorem du_ (hl:Ac l=true):AI l at' m=Al [] (Bq l at' m):=by
 have e:Al [] (slp (min (Af l) (at'+Af m)) (Af l) 0 l)=slp (min (at'+Af m) (Af l)) (Af l) 0 l:=by
  rw[fD_ (b8_ hl _ _),Int.min_comm]
 unfold AI Bq;rw[e];split
 ·have e2:AJ (Al [] (slp 0 (min at' (Af l)) 0 l)) ⟨0,0,at'-Af l⟩=Al [] (slp 0 (min at' (Af l)) 0 l++[⟨0,0,at'-Af l⟩]):=by
   rw[<-b2_];rfl
  rw[e2,b2_,b2_,<-ZC]
 ·rw[b2_,b2_,Yy,<-ZC]
theorem oL_ (hl:Ac l=true)(hm:Ac m=true)(h1:at'<=100):(∀ p∈Bq l at' m,Ag p=true)∧Af (Bq l at' m)<=400:=by
 have hA:=cH_ _ none 100 (by omega) (b8_ hl 0 (min at' (Af l)));have hC:=cH_ _ none 100 (by omega) (b8_ hl (min (at'+Af m) (Af l)) (Af l));have sm:=ae_ hm;have nl:=az_ l (ae_ hl).2.1;unfold Bq;constructor
 ·intro p hp;simp only[Zs] at hp;rcases hp with ((hp | hp) | hp) | hp
  ·exact hA.1 p hp
  ·split at hp
   ·simp at hp;subst hp;simp[Ag];omega
   ·simp at hp
  ·exact sm.2.1 p hp
  ·exact hC.1 p hp
 ·rw[a5_,a5_,a5_];split
  ·simp only[Af];omega
  ·simp only[Af];omega
theorem mT_ (l:List Pt)(at':Int)(m:List Pt):BQ l at' m=F7 l at' m:=by
 unfold BQ F7;by_cases h:Ac l=true∧0<=at'∧at'<=100∧Ac m=true
 ·obtain⟨ok1,ok2⟩:=oL_ h.1 h.2.2.2 h.2.2.1;have ha:=az_ _ ok1;obtain⟨b1,b2⟩:=kT_ (Bq l at' m) [] 400 rfl ok1 (by simp only[Af];omega) (by omega) (by omega)
  have hp:Ac (Al [] (Bq l at' m))=decide (Af (Bq l at' m)<=100∧(Al [] (Bq l at' m)).length<=16):=by
   rw[YH];simp only[Ac,Zf,ZU];simp only[Af,Int.zero_add] at b2;constructor
   ·rintro⟨k1,k2⟩
    have:=cH_ _ none 100 (by omega) k2
    exact⟨by omega,k1⟩
   ·rintro⟨k1,k2⟩;exact⟨k2,f4_ _ none 400 100 b1 (by omega) (by omega)⟩
  rw[if_pos h,hS_ (fun p hp=>av_ (ok1 p hp)),du_ h.1];simp only[h,and_self,true_and,hp,ZU]
 ·rw[if_neg h,if_neg (fun hc=>h hc.1)]
end
section
open Go Go.RowKit Go.BigFrame Tryz
variable{B:Nat}
theorem Ae.set4V {w:World}{b n cap i:Nat}{rows:List VR}{r:VR}(h:Ae vrs 4 62 w B (some ⟨b,0,none⟩) n cap rows)(hi:rows[i]?=some r)(r':VR):
  Ae vrs 4 62 ((((w.setCell ⟨b,i*4,none⟩ (.int .i64 r'.id)).setCell ⟨b,i*4+1,none⟩ (.string r'.nm)).setCell ⟨b,i*4+2,none⟩ (.bool r'.fx)).setCell ⟨b,i*4+3,none⟩ (.slice r'.pa r'.pn r'.pc)) B (some ⟨b,0,none⟩) n cap (rows.set i r'):=by
 have hl:=(Zb.1 hi).1;have q1:=Ae.set1 (j:=0) (v:=.int .i64 r'.id) (x':={r with id:=r'.id}) a2_ h hi (by omega) rfl;have q2:=Ae.set1 (j:=1) (v:=.string r'.nm) (x':={r with id:=r'.id,nm:=r'.nm}) a2_ q1 (Zx hl) (by omega) rfl;rw[List.set_set] at q2;have q3:=Ae.set1 (j:=2) (v:=.bool r'.fx) (x':={r with id:=r'.id,nm:=r'.nm,fx:=r'.fx}) a2_ q2 (Zx hl) (by omega) rfl;rw[List.set_set] at q3;have q4:=Ae.set1 (j:=3) (v:=.slice r'.pa r'.pn r'.pc) (x':=r') a2_ q3 (Zx hl) (by omega) rfl;rw[List.set_set] at q4;exact q4
theorem Eh (w:World)(b i:Nat)(v0 v1 v2 v3:Value):w.grownBy ((((w.setCell ⟨b,i,none⟩ v0).setCell ⟨b,i+1,none⟩ v1).setCell ⟨b,i+2,none⟩ v2).setCell ⟨b,i+3,none⟩ v3) (some b):=af_ (af_ (af_ (B3 w b i v0) (i+1) v1) (i+2) v2) (i+3) v3
theorem E5.uni {e:Ending}{w':World}{q:Option (List Pt)}(h:E5 B e w' q):∃ qa qn qc,e=.returned (.tuple #[.slice qa qn qc,.bool q.isSome])∧AN w' qa qn (q.getD []):=by
 cases q with
 |none=>exact⟨none,0,0,h,rfl,fun i x hx=>by simp at hx⟩
 |some ps=>obtain⟨a,n,c,h1,h2,_⟩:=h;exact⟨a,n,c,h1,h2⟩
theorem bH_ {p:Po}{vol file:ByteArray}(hp:Ai p=true):Ac ((Ar p.vs vol file).getD [])=true:=by
 cases h:Ar p.vs vol file with
 |none=>rfl
 |some ps=>exact (bb_ hp h).1
theorem f6_ (B:Nat)(hB0:0<B)(v:Value)(p:Po)(o:Opr)(w:World)(h:Am B w v p)(hNn:NnE v)(hBw:B<=w.heap.size)(hd:AC p)(hp:Ai p=true)(hk:o.k=10)(i:Nat)(hso:volI p.vs o.vol=some i)(hfx:∀ x:Vo,p.vs[i]?=some x->x.fx=false)(q:List Pt)(hpo:Ar p.vs o.vol o.file=some q)(ha:0<=o.at'∧o.at'<=100)(hl:1<=o.ln∧o.ln<=100):
  Calls prog 111 #[v,.agg #[.int .i64 o.k,.string o.vol,.string o.file,.string o.to,.string o.into,.int .i64 o.at',.int .i64 o.fr,.int .i64 o.ln,.string o.data]] w fun e w'=>(∃ v' c,e=.returned (.tuple #[v',.int .i64 c])∧Bh v'∧c=(Ap p o).1∧(c=0->Am B w' v' (Ap p o).2∧(Aj p o).2.2.length<=1000))∧Below B w w'∧FrV w w':=by
 have hE:=h.at';obtain⟨ea,en,ec,va,vn,vc,ra,rn,rc,la,ln,lc,rows,rfl,h1,⟨h2,h3⟩,h4,h5,h6⟩:=h;have hM:=hd;obtain⟨z1,z2,z3,z4,z5,z6,z7,z8⟩:=hd;have hV:Bb B w va vn p.vs:=h3.rows.vs h2;rw[hV.len] at z3;obtain⟨size,next,ex,vs,rf,lt⟩:=p;obtain⟨k,vol,file,tt,into,at0,fr,ln0,data⟩:=o;simp only at h1 h2 h3 h4 h5 hV z4 z3 hE hp hk ⊢;have _:=hB0;have _:=hNn;have _:=hBw;have _:=hp;have hT:vs.length=vn:=hV.len;have hW:rows.length=vn:=h2.sl.len;simp only at hso hfx hpo ha hl;subst hk;have hi:=ap_ hso;have hO:i<vn:=by omega
 have hx:vs[i]?=some vs[i]:=by simp[hi]
 have h7:(0:Int)<=(i:Int):=by omega
 have hP:(i:Int)<vn:=by omega
 have hr:rows[i]?=some (rows[i]'(by omega)):=by simp[hW,hO]
 have VT:=h3.at' i _ _ hr hx;generalize rows[i]'(by omega)=r0 at *;generalize vs[i]=x at *;obtain⟨rid,rnm,rfx,pa0,pn0,pc0⟩:=r0;obtain⟨e1,e2,e3,irows,RI,TI⟩:=VT;simp only at e1 e2 e3 RI;subst e1 e2 e3;obtain⟨vb,rfl,hX,hY,hZ⟩:=h2.addr (by omega);have hf:=hfx _ hx;clear hfx;have hJ:Aj ⟨size,next,ex,vs,rf,lt⟩ ⟨10,vol,file,tt,into,at0,fr,ln0,data⟩=(0,ex,AI q at0 [⟨0,0,ln0⟩]):=by simp[Aj,hpo]
 have hS:Hid (Ap ⟨size,next,ex,vs,rf,lt⟩ ⟨10,vol,file,tt,into,at0,fr,ln0,data⟩=(0,⟨size,next,ex,vs.set i ⟨x.id,x.nm,x.fx,Ba ⟨file,AI q at0 [⟨0,0,ln0⟩]⟩ x.its⟩,rf,lt⟩)):=by show _=_;simp[Ap,hso,hx,hf,hJ]
 generalize hF:Aj ⟨size,next,ex,vs,rf,lt⟩ ⟨10,vol,file,tt,into,at0,fr,ln0,data⟩=PS at *;replace hF:Hid (Aj ⟨size,next,ex,vs,rf,lt⟩ ⟨10,vol,file,tt,into,at0,fr,ln0,data⟩=PS):=hF;generalize Ap ⟨size,next,ex,vs,rf,lt⟩ ⟨10,vol,file,tt,into,at0,fr,ln0,data⟩=R at *;have hN:Hid (x.fx=false):=hf;clear hf;go_enter func111,ntmps111
 go_wp2_with fail
 refine (ak_ B size next ea en ec (some ⟨vb,0,none⟩) vn vc ra rn rc la ln lc vs vol _ (hV.below (by go_grown)) z3).mono ?_;rintro e w1 ⟨rfl,hD⟩;obtain⟨C,O,D,hn,h9⟩:=bx3 hD;clear hD;rw[hso];simp only[Bp];obtain⟨c0,c1,c2,c3,c4,c5⟩:=C.six';obtain⟨o0,o1,o2,o3,o4,o5,o6,o7,o8⟩:=ce9 O;obtain⟨x0,x1,x2,x3,x4,x5⟩:=D.six';obtain⟨f0,f1,f2,f3,f4,f5⟩:=fz6 D;have RA:=h2.below hn;have e2:w1.cell? ⟨vb,i*4+2,none⟩=some (.bool x.fx):=RA.cellAt (j:=2) hr rfl;rw[hN.out] at e2
 go_wp2_with fail
 refine (aH_ B _ ⟨size,next,ex,vs,rf,lt⟩ vol file _ (hE.below hn) hM).mono ?_;rintro e wA ⟨hs,hq⟩;obtain⟨qa,qn,qc,rfl,hQ⟩:=hs.uni;clear hs;have ho:Ac ((Ar vs vol file).getD [])=true:=bH_ (p:=⟨size,next,ex,vs,rf,lt⟩) hp;simp only at hQ ⊢;clear c0 c1 c2 c3 c4 c5 o0 o1 o2 o3 o4 o5 o6 o7 o8 x0 x1 x2 x3 x4 x5 f0 f1 f2 f3 f4 f5;have C':=C.below hq;have D':=D.below hq;have O':=O.below hq;have hw:=Aa hn hq;have qe:=hq.size;clear C D O e2 RA;obtain⟨c0,c1,c2,c3,c4,c5⟩:=C'.six';obtain⟨o0,o1,o2,o3,o4,o5,o6,o7,o8⟩:=ce9 O';obtain⟨x0,x1,x2,x3,x4,x5⟩:=D'.six';obtain⟨f0,f1,f2,f3,f4,f5⟩:=fz6 D';rw[hpo] at hQ ho ⊢;simp only[Yw,Option.isSome_some] at hQ ho ⊢;have hB:Ac [⟨0,0,ln0⟩]=true:=by simp[Ac,pgo,Ag];omega
 have hU:qn<=16:=by rw[<-hQ.len];exact (ae_ ho).1
 have hC:∀ k,0<=Af (q.take k)∧Af (q.take k)<=100:=fun k=>by have h1:=a6_ (ae_ ho).2.1 k;have h2:=(ae_ ho).2.2;omega
 go_wp2_with fail
 refine (aZ_ qa qn qc q _ hQ (by omega) hC).mono ?_;rintro e wB ⟨rfl,rfl⟩
 go_wp2_with fail
 refine (cM_ qa qn qc q at0 _ 1 1 [⟨0,0,ln0⟩] _ (hQ.below (by go_grown)) (ck_ _ ⟨0,0,ln0⟩ _ _ (by simp)) ho hB ha.1 ha.2).mono ?_;rintro e wL ⟨⟨pa1,pn1,pc1,rfl,h8,Rp⟩,hI⟩;have hm:Below wB.heap.size wB wL:=Aa (by go_grown) hI;have CL:=C'.below hm;have DL:=D'.below hm;have hc:=Aa hw hm;have hL:B<=(wB.alloc (.cells #[.int .i64 0,.int .i64 0,.int .i64 ln0] 201)).heap.size:=by simp;omega
 clear c0 c1 c2 c3 c4 c5 o0 o1 o2 o3 o4 o5 o6 o7 o8 x0 x1 x2 x3 x4 x5 f0 f1 f2 f3 f4 f5;have RL:=h2.below hc;have e0:wL.cell? ⟨vb,i*4,none⟩=some (.int .i64 x.id):=RL.cellAt (j:=0) hr rfl;have e1:wL.cell? ⟨vb,i*4+1,none⟩=some (.string x.nm):=RL.cellAt (j:=1) hr rfl;have e2:wL.cell? ⟨vb,i*4+2,none⟩=some (.bool x.fx):=RL.cellAt (j:=2) hr rfl;have e3:wL.cell? ⟨vb,i*4+3,none⟩=some (.slice pa0 pn0 pc0):=RL.cellAt (j:=3) hr rfl;have k3:wL.cell? ⟨w.heap.size,3,none⟩=some (.slice (some ⟨vb,0,none⟩) vn vc):=CL.cell 3;have qf:=hc.size;have hR:pn0<=4194304:=by have:=(z4 x (Zc hx)).2.1;rw[(TI.rows.its RI).len] at this;exact this
 go_wp2_with fail
 have hy:∀ u,Below wL.heap.size wL u->(fun u=>u.cell? ⟨w.heap.size,3,none⟩=some (.slice (some ⟨vb,0,none⟩) vn vc)∧u.cell? ⟨vb,i*4,none⟩=some (.int .i64 x.id)∧u.cell? ⟨vb,i*4+1,none⟩=some (.string x.nm)∧u.cell? ⟨vb,i*4+2,none⟩=some (.bool x.fx)∧u.cell? ⟨vb,i*4+3,none⟩=some (.slice pa0 pn0 pc0)) u:=fun u hu=>⟨Ab hu k3,Ab hu e0,Ab hu e1,Ab hu e2,Ab hu e3⟩;have h0:=hy wL.drew ((Yg _ _).drew);refine ar_ (S:=(fun u=>u.cell? ⟨w.heap.size,3,none⟩=some (.slice (some ⟨vb,0,none⟩) vn vc)∧u.cell? ⟨vb,i*4,none⟩=some (.int .i64 x.id)∧u.cell? ⟨vb,i*4+1,none⟩=some (.string x.nm)∧u.cell? ⟨vb,i*4+2,none⟩=some (.bool x.fx)∧u.cell? ⟨vb,i*4+3,none⟩=some (.slice pa0 pn0 pc0))) 12 (by kernel_rfl) (by kernel_rfl) ?_;refine tk 0 ?_;refine tk 1 ?_;refine tk 2 ?_;refine tk 3 ?_;refine tk 4 ?_;refine tk 5 ?_;refine tk 6 ?_;refine tk 7 ?_;refine tk 8 ?_;refine tk 9 ?_;refine AX (i:=10) (by kernel_rfl) rfl (fun K hK=>?_);go_simp;refine (cB_ B x.id x.nm x.fx x.its pa0 pn0 pc0 irows file pa1 pn1 pc1 (AI q at0 [⟨0,0,ln0⟩]) _ ((RI.below hc).below ((Yg _ _).drew)) ((TI.below hc).below ((Yg _ _).drew)) ((Rp.mono hL).below ((Yg _ _).drew)) hR).mono ?_;rintro e w5 ⟨⟨a2,n2,cap2,nrows,rfl,RN,TN⟩,hv⟩;have hg:Below wL.heap.size wL w5:=Aa ((Yg _ _).drew) hv;have qd:=hg.size;dsimp only;refine hK.out _ _ (hy _ hg) (fun hHeld=>?_);clear hK K
 try simp only[Act.put,lsA,lsB,lsC]
 refine tk 11 ?_;refine wpAnyH_done (by kernel_rfl) ?_ _;refine BK rfl ?_;have hh:=Aa hc hg;have ht:=RL.below hg;obtain⟨vcs,VB⟩:=ht.blkAt;have z0:=VB.frozen (i*4);have z1':=VB.frozen (i*4+1);have z2':=VB.frozen (i*4+2);have z3':=VB.frozen (i*4+3);have v0:=Ab hg e0;have v1:=Ab hg e1;have v2:=Ab hg e2;have v3:=Ab hg e3;have he:=Eh w5 vb (i*4) (.int .i64 x.id) (.string x.nm) (.bool x.fx) (.slice a2 n2 cap2);have hj:BA w5 (some vb) 62:=aa_ VB;have R1:=ht.set4V hr ⟨x.id,x.nm,x.fx,a2,n2,cap2⟩;simp only at R1;have T1:=((h3.below hh).ty he hj (by decide) (by decide)).set i (show Bd B _ ⟨x.id,x.nm,x.fx,a2,n2,cap2⟩ ⟨x.id,x.nm,x.fx,Ba ⟨file,(AI q at0 [⟨0,0,ln0⟩])⟩ x.its⟩ from ⟨rfl,rfl,rfl,nrows,(RN.ty he hj (by decide)).mono (by simp only[World.size_drew] at *;omega),TN.ty he hj (by decide)⟩);have C2:=(CL.below hg).ty he hj (by decide);have D2:=(DL.below hg).ty he hj (by decide);have P2:Am B ((((w5.setCell ⟨vb,i*4,none⟩ (.int .i64 x.id)).setCell ⟨vb,i*4+1,none⟩ (.string x.nm)).setCell ⟨vb,i*4+2,none⟩ (.bool x.fx)).setCell ⟨vb,i*4+3,none⟩ (.slice a2 n2 cap2)) (.agg #[.int .i64 size,.int .i64 next,.slice ea en ec,.slice (some ⟨vb,0,none⟩) vn vc,.slice ra rn rc,.slice la ln lc]) ⟨size,next,ex,vs.set i ⟨x.id,x.nm,x.fx,Ba ⟨file,AI q at0 [⟨0,0,ln0⟩]⟩ x.its⟩,rf,lt⟩:=⟨ea,en,ec,some ⟨vb,0,none⟩,vn,vc,ra,rn,rc,la,ln,lc,_,rfl,((h1.below hc).below hg).ty he hj (by decide),⟨R1,T1⟩,(h4.below hh).ty he hj (by decide),(h5.below hh).ty he hj (by decide),h6⟩;obtain⟨y0,y1,y2,y3,y4,y5⟩:=C2.six';obtain⟨q0,q1,q2,q3,q4,q5⟩:=D2.six';obtain⟨m0,m1,m2,m3,m4,m5⟩:=fz6 D2;have hH:=(hh.mono hBw).grown he (by omega) (fun j e=>by cases e;exact hX);have qb:=he.size;have FT0:Hid (FrV w ((((w5.setCell ⟨vb,i*4,none⟩ (.int .i64 x.id)).setCell ⟨vb,i*4+1,none⟩ (.string x.nm)).setCell ⟨vb,i*4+2,none⟩ (.bool x.fx)).setCell ⟨vb,i*4+3,none⟩ (.slice a2 n2 cap2))):=fun k c t hb hA=>(hb.below hh).ty he hj hA;clear R1 T1 he ht VB hj hy;go_wp2;obtain⟨W8,hG,W0,hz⟩:=AV D2 (.int .i64 size) (.int .i64 next) (.slice ea en ec) (.slice (some ⟨vb,0,none⟩) vn vc) (.slice ra rn rc) (.slice la ln lc);have PF:=P2.tyP hz (aa_ D2);have B8:=hH.grown hz (by omega) (fun j e=>by cases e;omega);have FT:=fun (k:Nat) (c:Array Value) (t:TypeId) (hb:Blk w k c t) (hA:t≠62)=>(FT0.out k c t hb hA).offB hz (B:=w.heap.size) (fun j e=>by cases e;omega) hb.lt;rw[<-hG];clear hG;refine YW (ad_ rfl _ W8 (w.heap.size+2) _ _ _ _ _ rfl W0 underlying35 rfl (by kernel_rfl) rfl) rfl ?_;exact⟨⟨_,0,rfl,bm_ _ _ _ _ _ _ _ _ _ _ _ _ _ _,by rw[hS.out],fun _=>⟨by rw[hS.out];exact PF,by exact Zl (Zm Rp.sl.len) (by omega)⟩⟩,B8,FT⟩
end
end Go.Proofs.YtahenegmbmnmjaaGreatDoor
