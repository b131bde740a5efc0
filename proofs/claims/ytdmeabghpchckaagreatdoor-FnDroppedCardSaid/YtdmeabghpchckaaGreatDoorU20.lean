/- An order carried out: a flush. -/
import Derived.Test.YtdmeabghpchckaaGreatDoorU19
set_option maxHeartbeats 20000000
set_option maxRecDepth 100000
namespace Go.Proofs.YtdmeabghpchckaaGreatDoor
section
open Go Go.RowKit Go.BigFrame Tryz
variable{r:IR}{y:It}{e:List Ex}{rows:List IR}{B cap2 n2:Nat}{a2:Option Addr}{p:Po}{w3 wr:World}
theorem cB_ (B:Nat)(id:Int)(nm:ByteArray)(fx:Bool)(its:List It)(ia:Option Addr)(inn icp:Nat)(irows:List IR)(name:ByteArray)(pa:Option Addr)(pn pc:Nat)(ps:List Pt)(w:World)
  (R:Ad irs 2 134 w B ia inn icp irows)(T:AC B w irows its)(RP:Ad Pt.cs 3 146 w B pa pn pc ps)(hn:inn<=4194304):
  Calls prog 124 #[.agg #[.int .i64 id,.string nm,.bool fx,.slice ia inn icp],.string name,.slice pa pn pc] w fun e w'=>(∃ a2 n2 cap2 rows,e=.returned (.agg #[.int .i64 id,.string nm,.bool fx,.slice a2 n2 cap2])∧Ad irs 2 134 w' w.heap.size a2 n2 cap2 rows∧AC B w' rows (A9 ⟨name,ps⟩ its))∧Below w.heap.size w w':=by
 have hm:Hid (its.length=inn):=by show _=_;rw[<-T.len];exact R.sl.len
 have hz:irows.length=inn:=R.sl.len;go_enter func124,ntmps124
 go_wp2_with fail
 go_loopw [7,9,10] (fun lst dn ix wr=>∃ (k:Nat) (a2:Option Addr) (n2 cap2:Nat) (rows:List IR),k<=inn∧ix=.int .i64 k∧dn=.bool (DI ⟨name,ps⟩ its k).2∧lst=.slice a2 n2 cap2∧n2<=2*k∧Ad irs 2 134 wr (w.heap.size+2) a2 n2 cap2 rows∧AC B wr rows (DI ⟨name,ps⟩ its k).1∧Ew w B a2 id nm fx ia inn icp name pa pn pc wr) (fun _ _ ix _=>inn-(intOf ix).toNat)
 case atStart=>exact⟨0,_,0,0,[],Zg _,rfl,rfl,rfl,by omega,aw_ ((Blk.new' _ _ _ _ (by simp)).alloc _) (by omega),AC.nil _ _,⟨fun ad e=>(by cases e;simp only[ne_eq];omega),(((Blk.new w _ _).alloc _).alloc _).alloc _,((Blk.new' _ _ _ _ (by simp)).alloc _).alloc _,Blk.new' _ _ _ _ (by simp),by simp,by go_grown⟩⟩
 case round=>
  obtain⟨k,a2,n2,cap2,rows,hk,rfl,rfl,rfl,hG,R2,T2,E⟩:=hrel;obtain⟨z0,z1,z2,z3⟩:=E.b0.four;have x0:wr.cell? ⟨w.heap.size+3,0,none⟩=some (.string name):=E.b3.cell 0;have x1:wr.cell? ⟨w.heap.size+3,1,none⟩=some (.slice pa pn pc):=E.b3.cell 1;have hH:=E.sz;have V0:BU B wr (⟨name,pa,pn,pc⟩:IR) ⟨name,ps⟩:=⟨rfl,RP.below E.bl⟩;by_cases hlt:k<inn
  ·have hr:irows[k]?=some (irows[k]'(by omega)):=by simp[hz,hlt]
   have hy:its[k]?=some (its[k]'(by rw[hm.out];exact hlt)):=by simp[hm.out,hlt]
   have hB:=hr;have hV:=(T.below E.bl).at' k _ _ hr hy;obtain⟨b,o,rfl,hc⟩:=(R.sl.below E.bl).cell k _ hr;generalize irows[k]'(by omega)=r at *;generalize its[k]'(by rw[hm.out];exact hlt)=y at *;obtain⟨rn,qa,qn,qc⟩:=r;have c0:wr.cell? ⟨b,o+k*2,none⟩=some (.string rn):=hc 0 _ rfl;have c1:wr.cell? ⟨b,o+k*2+1,none⟩=some (.slice qa qn qc):=hc 1 _ rfl;have hf:Hid (DI ⟨name,ps⟩ its (k+1)=Bh ⟨name,ps⟩ (DI ⟨name,ps⟩ its k) y):=nq_ hy;have hC:rn=y.nm:=hV.nm;subst hC;clear hc hr hy;have hE:(k:Int)<inn:=by omega
   have hF:(0:Int)<=k:=by omega
   generalize DI ⟨name,ps⟩ its k=G at *;obtain⟨gl,d⟩:=G;simp only at T2 ⊢
   have hu:b<w.heap.size+2:=by
    have:=Yk w (⟨b,o+k*2,none⟩:Addr) (u:=.string y.nm) (by
     obtain⟨b',o',hw,hx⟩:=R.sl.cell k _ hB;obtain⟨rfl,rfl⟩:b=b'∧o=o':=by simpa using hw
     exact hx 0 _ rfl)
    simp only at this;omega
   cases d
   ·cases hh:bl y.nm.toList name.toList
    ·cases hb:(y.nm.toList==name.toList)
     ·have he:Hid (Bh ⟨name,ps⟩ (gl,false) y=(gl++[⟨name,ps⟩]++[y],true)):=by show _=_;simp[Bh,hh,hb]
      have hq:¬ y.nm.toList=name.toList:=by simpa using hb
      go_wp2_with (first | (at_builtin;refine ag_ rfl (fun K hK=>b1_ _ _ rfl (w.heap.size+2) a3 (n2+1) cap3 (rows++[(⟨name,pa,pn,pc⟩:IR)]) rfl (R3.alloc _) _ _ (⟨y.nm,qa,qn,qc⟩:IR) rfl (cd_ _ (⟨y.nm,qa,qn,qc⟩:IR) _ _ (by simp)) (by omega) (by simp;omega) (fun a4 cap4 w4 R4 hv hA=>hK _ _ ?_));have E4:=E3.app R3 hv hA;have hD:=E4.sz) | (at_builtin;refine ag_ rfl (fun K hK=>b1_ _ _ rfl (w.heap.size+2) a2 n2 cap2 rows rfl (R2.alloc _) _ _ (⟨name,pa,pn,pc⟩:IR) rfl (cd_ _ (⟨name,pa,pn,pc⟩:IR) _ _ (by simp)) (by omega) (by simp;omega) (fun a3 cap3 w3 R3 ha hj=>hK _ _ ?_));have E3:=E.app R2 ha hj;have hl:=E3.sz;have z3:w3.cell? ⟨w.heap.size,3,none⟩=some (.slice (some ⟨b,o,none⟩) inn icp):=E3.b0.cell 3;have c03:=ha.cell (Am _ c0) (at_ (fun ad ho=>(R2.block ad ho).1) hu);have c13:=ha.cell (Am _ c1) (at_ (fun ad ho=>(R2.block ad ho).1) hu)))
      go_wp2;go_roundw
      case rel=>exact⟨k+1,a4,(n2+1+1),cap4,_,by omega,by go_num,by rw[hf.out,he.out],rfl,by omega,R4,by rw[hf.out,he.out];exact ((T2.app V0 R2 ha).app (hV.app R2 ha) R3 hv),E4⟩
      case measure=>simp[intOf];omega
     ·have he:Hid (Bh ⟨name,ps⟩ (gl,false) y=(gl++[⟨name,ps⟩],true)):=by show _=_;simp[Bh,hh,hb]
      have hq:y.nm.toList=name.toList:=by simpa using hb
      have hg:=hh;rw[hq] at hg
      go_wp2_with (at_builtin;refine ag_ rfl (fun K hK=>b1_ _ _ rfl (w.heap.size+2) a2 n2 cap2 rows rfl (R2.alloc _) _ _ (⟨name,pa,pn,pc⟩:IR) rfl (cd_ _ (⟨name,pa,pn,pc⟩:IR) _ _ (by simp)) (by omega) (by simp;omega) (fun a3 cap3 w3 R3 ha hj=>hK _ _ ?_));have E3:=E.app R2 ha hj;have hl:=E3.sz;have z3:w3.cell? ⟨w.heap.size,3,none⟩=some (.slice (some ⟨b,o,none⟩) inn icp):=E3.b0.cell 3;have c03:=ha.cell (Am _ c0) (at_ (fun ad ho=>(R2.block ad ho).1) hu);have c13:=ha.cell (Am _ c1) (at_ (fun ad ho=>(R2.block ad ho).1) hu))
      go_wp2;go_roundw
      case rel=>exact⟨k+1,a3,(n2+1),cap3,_,by omega,by go_num,by rw[hf.out,he.out],rfl,by omega,R3,by rw[hf.out,he.out];exact (T2.app V0 R2 ha),E3⟩
      case measure=>simp[intOf];omega
    ·cases hb:(y.nm.toList==name.toList)
     ·have he:Hid (Bh ⟨name,ps⟩ (gl,false) y=(gl++[y],false)):=by show _=_;simp[Bh,hh,hb]
      have hq:¬ y.nm.toList=name.toList:=by simpa using hb
      go_wp2_with (at_builtin;refine ag_ rfl (fun K hK=>b1_ _ _ rfl (w.heap.size+2) a2 n2 cap2 rows rfl (R2.alloc _) _ _ (⟨y.nm,qa,qn,qc⟩:IR) rfl (cd_ _ (⟨y.nm,qa,qn,qc⟩:IR) _ _ (by simp)) (by omega) (by simp;omega) (fun a3 cap3 w3 R3 ha hj=>hK _ _ ?_));have E3:=E.app R2 ha hj;have hl:=E3.sz)
      go_wp2;go_roundw
      case rel=>exact⟨k+1,a3,(n2+1),cap3,_,by omega,by go_num,by rw[hf.out,he.out],rfl,by omega,R3,by rw[hf.out,he.out];exact (T2.app hV R2 ha),E3⟩
      case measure=>simp[intOf];omega
     ·have he:Hid (Bh ⟨name,ps⟩ (gl,false) y=(gl,false)):=by show _=_;simp[Bh,hh,hb]
      have hq:y.nm.toList=name.toList:=by simpa using hb
      have hg:=hh;rw[hq] at hg;go_wp2;go_roundw
      case rel=>exact⟨k+1,a2,n2,cap2,rows,by omega,by go_num,by rw[hf.out,he.out],rfl,by omega,R2,by rw[hf.out,he.out];exact T2,E⟩
      case measure=>simp[intOf];omega
   ·cases hh:bl y.nm.toList name.toList
    ·cases hb:(y.nm.toList==name.toList)
     ·have he:Hid (Bh ⟨name,ps⟩ (gl,true) y=(gl++[y],true)):=by show _=_;simp[Bh,hh,hb]
      have hq:¬ y.nm.toList=name.toList:=by simpa using hb
      go_wp2_with (at_builtin;refine ag_ rfl (fun K hK=>b1_ _ _ rfl (w.heap.size+2) a2 n2 cap2 rows rfl (R2.alloc _) _ _ (⟨y.nm,qa,qn,qc⟩:IR) rfl (cd_ _ (⟨y.nm,qa,qn,qc⟩:IR) _ _ (by simp)) (by omega) (by simp;omega) (fun a3 cap3 w3 R3 ha hj=>hK _ _ ?_));have E3:=E.app R2 ha hj;have hl:=E3.sz)
      go_wp2;go_roundw
      case rel=>exact⟨k+1,a3,(n2+1),cap3,_,by omega,by go_num,by rw[hf.out,he.out],rfl,by omega,R3,by rw[hf.out,he.out];exact (T2.app hV R2 ha),E3⟩
      case measure=>simp[intOf];omega
     ·have he:Hid (Bh ⟨name,ps⟩ (gl,true) y=(gl,true)):=by show _=_;simp[Bh,hh,hb]
      have hq:y.nm.toList=name.toList:=by simpa using hb
      have hg:=hh;rw[hq] at hg;go_wp2;go_roundw
      case rel=>exact⟨k+1,a2,n2,cap2,rows,by omega,by go_num,by rw[hf.out,he.out],rfl,by omega,R2,by rw[hf.out,he.out];exact T2,E⟩
      case measure=>simp[intOf];omega
    ·cases hb:(y.nm.toList==name.toList)
     ·have he:Hid (Bh ⟨name,ps⟩ (gl,true) y=(gl++[y],true)):=by show _=_;simp[Bh,hh,hb]
      have hq:¬ y.nm.toList=name.toList:=by simpa using hb
      go_wp2_with (at_builtin;refine ag_ rfl (fun K hK=>b1_ _ _ rfl (w.heap.size+2) a2 n2 cap2 rows rfl (R2.alloc _) _ _ (⟨y.nm,qa,qn,qc⟩:IR) rfl (cd_ _ (⟨y.nm,qa,qn,qc⟩:IR) _ _ (by simp)) (by omega) (by simp;omega) (fun a3 cap3 w3 R3 ha hj=>hK _ _ ?_));have E3:=E.app R2 ha hj;have hl:=E3.sz)
      go_wp2;go_roundw
      case rel=>exact⟨k+1,a3,(n2+1),cap3,_,by omega,by go_num,by rw[hf.out,he.out],rfl,by omega,R3,by rw[hf.out,he.out];exact (T2.app hV R2 ha),E3⟩
      case measure=>simp[intOf];omega
     ·have he:Hid (Bh ⟨name,ps⟩ (gl,true) y=(gl,true)):=by show _=_;simp[Bh,hh,hb]
      have hq:y.nm.toList=name.toList:=by simpa using hb
      have hg:=hh;rw[hq] at hg;go_wp2;go_roundw
      case rel=>exact⟨k+1,a2,n2,cap2,rows,by omega,by go_num,by rw[hf.out,he.out],rfl,by omega,R2,by rw[hf.out,he.out];exact T2,E⟩
      case measure=>simp[intOf];omega
  ·obtain rfl:k=inn:=by omega
   have ht:Hid (DH ⟨name,ps⟩ (DI ⟨name,ps⟩ its k)=A9 ⟨name,ps⟩ its):=om_ hm.out;generalize DI ⟨name,ps⟩ its k=G at *;obtain⟨gl,d⟩:=G;simp only at T2 ⊢
   cases d
   ·go_wp2_with (at_builtin;refine ag_ rfl (fun K hK=>b1_ _ _ rfl (w.heap.size+2) a2 n2 cap2 rows rfl (R2.alloc _) _ _ (⟨name,pa,pn,pc⟩:IR) rfl (cd_ _ (⟨name,pa,pn,pc⟩:IR) _ _ (by simp)) (by omega) (by simp;omega) (fun a3 cap3 w3 R3 ha hj=>hK _ _ ?_));have E3:=E.app R2 ha hj;have hl:=E3.sz;have g3:=E3.b0.frozen 3;obtain⟨u0,u1,u2,u3⟩:=E3.b0.four;have V1:=E3.b0.set 3 (.slice a3 (n2+1) cap3);have hs:=BW w3 w.heap.size 3 (.slice a3 (n2+1) cap3);have D1:=E3.b1.other ⟨w.heap.size,3,none⟩ (.slice a3 (n2+1) cap3) (by simp only[ne_eq];omega);have V2:Blk (w3.setCell ⟨w.heap.size,3,none⟩ (.slice a3 (n2+1) cap3)) w.heap.size #[.int .i64 id,.string nm,.bool fx,.slice a3 (n2+1) cap3] 38:=(by simpa using V1);have RR:=R3.ty hs (aa_ E3.b0) (by decide);have TT:=(T2.app V0 R2 ha).ty hs (aa_ E3.b0) (by decide);have BB:=E3.bl.setCell (p:=⟨w.heap.size,3,none⟩) (Zd _) (.slice a3 (n2+1) cap3);obtain⟨v0,v1,v2,v3⟩:=V2.four;have m0:=D1.frozen 0;have m1:=D1.frozen 1;have m2:=D1.frozen 2;have m3:=D1.frozen 3;obtain⟨n0,n1,n2',n3⟩:=D1.four;obtain⟨W0,hp⟩:=HN D1 (.int .i64 id) (.string nm) (.bool fx) (.slice a3 (n2+1) cap3);have R0:=RR.ty hp (aa_ D1) (by decide);have T0:=TT.ty hp (aa_ D1) (by decide);have B1:=BB.grown hp BB.size (fun j e=>by cases e;omega);clear V1 V2 D1 RR TT BB hs)
    generalize ((((w3.setCell ⟨w.heap.size,3,none⟩ (.slice a3 (n2+1) cap3)).setCell ⟨w.heap.size+1,0,none⟩ (.int .i64 id)).setCell ⟨w.heap.size+1,1,none⟩ (.string nm)).setCell ⟨w.heap.size+1,2,none⟩ (.bool fx)).setCell ⟨w.heap.size+1,3,none⟩ (.slice a3 (n2+1) cap3)=W8 at *;refine YW (results_cell_row rfl _ W8 (w.heap.size+1) _ _ _ _ rfl W0 underlying38 rfl (by kernel_rfl)) rfl ?_;exact⟨⟨a3,(n2+1),cap3,_,rfl,R0.mono (by omega),by rw[<-ht.out];simp only[DH];exact T0⟩,B1⟩
   ·have g3:=E.b0.frozen 3;obtain⟨u0,u1,u2,u3⟩:=E.b0.four;have V1:=E.b0.set 3 (.slice a2 n2 cap2);have hs:=BW wr w.heap.size 3 (.slice a2 n2 cap2);have D1:=E.b1.other ⟨w.heap.size,3,none⟩ (.slice a2 n2 cap2) (by simp only[ne_eq];omega);have V2:Blk (wr.setCell ⟨w.heap.size,3,none⟩ (.slice a2 n2 cap2)) w.heap.size #[.int .i64 id,.string nm,.bool fx,.slice a2 n2 cap2] 38:=by simpa using V1
    have RR:=R2.ty hs (aa_ E.b0) (by decide);have TT:=T2.ty hs (aa_ E.b0) (by decide);have BB:=E.bl.setCell (p:=⟨w.heap.size,3,none⟩) (Zd _) (.slice a2 n2 cap2);obtain⟨v0,v1,v2,v3⟩:=V2.four;have m0:=D1.frozen 0;have m1:=D1.frozen 1;have m2:=D1.frozen 2;have m3:=D1.frozen 3;obtain⟨n0,n1,n2',n3⟩:=D1.four;obtain⟨W0,hp⟩:=HN D1 (.int .i64 id) (.string nm) (.bool fx) (.slice a2 n2 cap2);have R0:=RR.ty hp (aa_ D1) (by decide);have T0:=TT.ty hp (aa_ D1) (by decide);have B1:=BB.grown hp BB.size (fun j e=>by cases e;omega);clear V1 V2 D1 RR TT BB hs;go_wp2;generalize ((((wr.setCell ⟨w.heap.size,3,none⟩ (.slice a2 n2 cap2)).setCell ⟨w.heap.size+1,0,none⟩ (.int .i64 id)).setCell ⟨w.heap.size+1,1,none⟩ (.string nm)).setCell ⟨w.heap.size+1,2,none⟩ (.bool fx)).setCell ⟨w.heap.size+1,3,none⟩ (.slice a2 n2 cap2)=W8 at *;refine YW (results_cell_row rfl _ W8 (w.heap.size+1) _ _ _ _ rfl W0 underlying38 rfl (by kernel_rfl)) rfl ?_;exact⟨⟨a2,n2,cap2,_,rfl,R0.mono (by omega),by rw[<-ht.out];simp only[DH];exact T0⟩,B1⟩
end
section
open Go Go.RowKit
variable{l m:List Pt}
theorem iw_ (hl:Ac l=true)(hm:Ac m=true):Ac (Ak l m)=decide (Af l+Af m<=100∧(Ak l m).length<=16):=by
 have sl:=ae_ hl;have sm:=ae_ hm;have nl:=az_ l sl.2.1;have nm:=az_ m sm.2.1
 obtain⟨b1,b2⟩:=kT_ m l 200 (by
  have hp:=f5_ hl;exact f4_ l none 100 200 hp (by omega) (by omega)) sm.2.1 (by omega) (by omega) (by omega)
 rw[YH];simp only[Ac,Zf,ZU];constructor
 ·rintro⟨h1,h2⟩
  have:=cH_ _ none 100 (by omega) h2
  exact⟨by omega,h1⟩
 ·rintro⟨h1,h2⟩;exact⟨h2,f4_ _ none 200 100 b1 (by omega) (by omega)⟩
end
section
open Go Go.RowKit Go.BigFrame Tryz
variable{B:Nat}
theorem Ad.set4V {w:World}{b n cap i:Nat}{rows:List VR}{r:VR}(h:Ad vrs 4 38 w B (some ⟨b,0,none⟩) n cap rows)(hi:rows[i]?=some r)(r':VR):
  Ad vrs 4 38 ((((w.setCell ⟨b,i*4,none⟩ (.int .i64 r'.id)).setCell ⟨b,i*4+1,none⟩ (.string r'.nm)).setCell ⟨b,i*4+2,none⟩ (.bool r'.fx)).setCell ⟨b,i*4+3,none⟩ (.slice r'.pa r'.pn r'.pc)) B (some ⟨b,0,none⟩) n cap (rows.set i r'):=by
 have hl:=(Zb.1 hi).1;have q1:=Ad.set1 (j:=0) (v:=.int .i64 r'.id) (x':={r with id:=r'.id}) a2_ h hi (by omega) rfl;have q2:=Ad.set1 (j:=1) (v:=.string r'.nm) (x':={r with id:=r'.id,nm:=r'.nm}) a2_ q1 (Zx hl) (by omega) rfl;rw[List.set_set] at q2;have q3:=Ad.set1 (j:=2) (v:=.bool r'.fx) (x':={r with id:=r'.id,nm:=r'.nm,fx:=r'.fx}) a2_ q2 (Zx hl) (by omega) rfl;rw[List.set_set] at q3;have q4:=Ad.set1 (j:=3) (v:=.slice r'.pa r'.pn r'.pc) (x':=r') a2_ q3 (Zx hl) (by omega) rfl;rw[List.set_set] at q4;exact q4
theorem DW (w:World)(b i:Nat)(v0 v1 v2 v3:Value):w.grownBy ((((w.setCell ⟨b,i,none⟩ v0).setCell ⟨b,i+1,none⟩ v1).setCell ⟨b,i+2,none⟩ v2).setCell ⟨b,i+3,none⟩ v3) (some b):=af_ (af_ (af_ (BW w b i v0) (i+1) v1) (i+2) v2) (i+3) v3
theorem EO.uni {e:Ending}{w':World}{q:Option (List Pt)}(h:EO B e w' q):∃ qa qn qc,e=.returned (.tuple #[.slice qa qn qc,.bool q.isSome])∧AM w' qa qn (q.getD []):=by
 cases q with
 |none=>exact⟨none,0,0,h,rfl,fun i x hx=>by simp at hx⟩
 |some ps=>obtain⟨a,n,c,h1,h2,_⟩:=h;exact⟨a,n,c,h1,h2⟩
theorem f6_ (B:Nat)(hB0:0<B)(v:Value)(p:Po)(o:Opr)(w:World)(h:Al B w v p)(hNn:NnE v)(hBw:B<=w.heap.size)(hd:AB p)(hp:Ai p=true)(hk:o.k=10)(i:Nat)(hso:volI p.vs o.vol=some i)(hfx:∀ x:Vo,p.vs[i]?=some x->x.fx=false)(q:List Pt)(hpo:Ar p.vs o.vol o.file=some q)(ha:0<=o.at'∧o.at'<=100)(hl:1<=o.ln∧o.ln<=100):
  Calls prog 72 #[v,.agg #[.int .i64 o.k,.string o.vol,.string o.file,.string o.to,.string o.into,.int .i64 o.at',.int .i64 o.fr,.int .i64 o.ln,.string o.data]] w fun e w'=>(∃ v' c,e=.returned (.tuple #[v',.int .i64 c])∧Bg v'∧c=(Ap p o).1∧(c=0->Al B w' v' (Ap p o).2∧(Ah p o).2.2.length<=1000))∧Below B w w'∧FrV w w':=by
 have hE:=h.at';obtain⟨ea,en,ec,va,vn,vc,ra,rn,rc,la,ln,lc,rows,rfl,h1,⟨h2,h3⟩,h4,h5,h6⟩:=h;have hM:=hd;obtain⟨z1,z2,z3,z4,z5,z6,z7,z8⟩:=hd;have hV:Ba B w va vn p.vs:=h3.rows.vs h2;rw[hV.len] at z3;obtain⟨size,next,ex,vs,rf,lt⟩:=p;obtain⟨k,vol,file,tt,into,at0,fr,ln0,data⟩:=o;simp only at h1 h2 h3 h4 h5 hV z4 z3 hE hp hk ⊢;have _:=hB0;have _:=hNn;have _:=hBw;have _:=hp;have hT:vs.length=vn:=hV.len;have hW:rows.length=vn:=h2.sl.len;simp only at hso hfx hpo ha hl;subst hk;have hi:=ap_ hso;have hO:i<vn:=by omega
 have hx:vs[i]?=some vs[i]:=by simp[hi]
 have h7:(0:Int)<=(i:Int):=by omega
 have hP:(i:Int)<vn:=by omega
 have hr:rows[i]?=some (rows[i]'(by omega)):=by simp[hW,hO]
 have VT:=h3.at' i _ _ hr hx;generalize rows[i]'(by omega)=r0 at *;generalize vs[i]=x at *;obtain⟨rid,rnm,rfx,pa0,pn0,pc0⟩:=r0;obtain⟨e1,e2,e3,irows,RI,TI⟩:=VT;simp only at e1 e2 e3 RI;subst e1 e2 e3;obtain⟨vb,rfl,hX,hY,hZ⟩:=h2.addr (by omega);have hf:=hfx _ hx;clear hfx;have hJ:Ah ⟨size,next,ex,vs,rf,lt⟩ ⟨10,vol,file,tt,into,at0,fr,ln0,data⟩=(0,ex,AH q at0 [⟨0,0,ln0⟩]):=by simp[Ah,hpo]
 have hS:Hid (Ap ⟨size,next,ex,vs,rf,lt⟩ ⟨10,vol,file,tt,into,at0,fr,ln0,data⟩=(0,⟨size,next,ex,vs.set i ⟨x.id,x.nm,x.fx,A9 ⟨file,AH q at0 [⟨0,0,ln0⟩]⟩ x.its⟩,rf,lt⟩)):=by show _=_;simp[Ap,hso,hx,hf,hJ]
 generalize hF:Ah ⟨size,next,ex,vs,rf,lt⟩ ⟨10,vol,file,tt,into,at0,fr,ln0,data⟩=PS at *;replace hF:Hid (Ah ⟨size,next,ex,vs,rf,lt⟩ ⟨10,vol,file,tt,into,at0,fr,ln0,data⟩=PS):=hF;generalize Ap ⟨size,next,ex,vs,rf,lt⟩ ⟨10,vol,file,tt,into,at0,fr,ln0,data⟩=R at *;have hN:Hid (x.fx=false):=hf;clear hf;go_enter func72,ntmps72
 go_wp2_with fail
 refine (ak_ B size next ea en ec (some ⟨vb,0,none⟩) vn vc ra rn rc la ln lc vs vol _ (hV.below (by go_grown)) z3).mono ?_;rintro e w1 ⟨rfl,hD⟩;obtain⟨C,O,D,hn,h9⟩:=bx3 hD;clear hD;rw[hso];simp only[Bo];obtain⟨c0,c1,c2,c3,c4,c5⟩:=C.six';obtain⟨o0,o1,o2,o3,o4,o5,o6,o7,o8⟩:=ce9 O;obtain⟨x0,x1,x2,x3,x4,x5⟩:=D.six';obtain⟨f0,f1,f2,f3,f4,f5⟩:=fz6 D;have RA:=h2.below hn;have e2:w1.cell? ⟨vb,i*4+2,none⟩=some (.bool x.fx):=RA.cellAt (j:=2) hr rfl;rw[hN.out] at e2
 go_wp2_with fail
 refine (aH_ B _ ⟨size,next,ex,vs,rf,lt⟩ vol file _ (hE.below hn) hM).mono ?_;rintro e wA ⟨hs,hq⟩;obtain⟨qa,qn,qc,rfl,hQ⟩:=hs.uni;clear hs;have ho:Ac ((Ar vs vol file).getD [])=true:=bH_ (p:=⟨size,next,ex,vs,rf,lt⟩) hp;simp only at hQ ⊢;clear c0 c1 c2 c3 c4 c5 o0 o1 o2 o3 o4 o5 o6 o7 o8 x0 x1 x2 x3 x4 x5 f0 f1 f2 f3 f4 f5;have C':=C.below hq;have D':=D.below hq;have O':=O.below hq;have hw:=Aa hn hq;have qe:=hq.size;clear C D O e2 RA;obtain⟨c0,c1,c2,c3,c4,c5⟩:=C'.six';obtain⟨o0,o1,o2,o3,o4,o5,o6,o7,o8⟩:=ce9 O';obtain⟨x0,x1,x2,x3,x4,x5⟩:=D'.six';obtain⟨f0,f1,f2,f3,f4,f5⟩:=fz6 D';rw[hpo] at hQ ho ⊢;simp only[Yw,Option.isSome_some] at hQ ho ⊢;have hB:Ac [⟨0,0,ln0⟩]=true:=by simp[Ac,pgo,Ag];omega
 have hU:qn<=16:=by rw[<-hQ.len];exact (ae_ ho).1
 have hC:∀ k,0<=Af (q.take k)∧Af (q.take k)<=100:=fun k=>by have h1:=a6_ (ae_ ho).2.1 k;have h2:=(ae_ ho).2.2;omega
 go_wp2_with fail
 refine (aZ_ qa qn qc q _ hQ (by omega) hC).mono ?_;rintro e wB ⟨rfl,rfl⟩
 go_wp2_with fail
 refine (cM_ qa qn qc q at0 _ 1 1 [⟨0,0,ln0⟩] _ (hQ.below (by go_grown)) (ck_ _ ⟨0,0,ln0⟩ _ _ (by simp)) ho hB ha.1 ha.2).mono ?_;rintro e wL ⟨⟨pa1,pn1,pc1,rfl,h8,Rp⟩,hI⟩;have hm:Below wB.heap.size wB wL:=Aa (by go_grown) hI;have CL:=C'.below hm;have DL:=D'.below hm;have hc:=Aa hw hm;have hL:B<=(wB.alloc (.cells #[.int .i64 0,.int .i64 0,.int .i64 ln0] 146)).heap.size:=by simp;omega
 clear c0 c1 c2 c3 c4 c5 o0 o1 o2 o3 o4 o5 o6 o7 o8 x0 x1 x2 x3 x4 x5 f0 f1 f2 f3 f4 f5;have RL:=h2.below hc;have e0:wL.cell? ⟨vb,i*4,none⟩=some (.int .i64 x.id):=RL.cellAt (j:=0) hr rfl;have e1:wL.cell? ⟨vb,i*4+1,none⟩=some (.string x.nm):=RL.cellAt (j:=1) hr rfl;have e2:wL.cell? ⟨vb,i*4+2,none⟩=some (.bool x.fx):=RL.cellAt (j:=2) hr rfl;have e3:wL.cell? ⟨vb,i*4+3,none⟩=some (.slice pa0 pn0 pc0):=RL.cellAt (j:=3) hr rfl;have k3:wL.cell? ⟨w.heap.size,3,none⟩=some (.slice (some ⟨vb,0,none⟩) vn vc):=CL.cell 3;have qf:=hc.size;have hR:pn0<=4194304:=by have:=(z4 x (Zc hx)).2.1;rw[(TI.rows.its RI).len] at this;exact this
 go_wp2_with fail
 have hy:∀ u,Below wL.heap.size wL u->(fun u=>u.cell? ⟨w.heap.size,3,none⟩=some (.slice (some ⟨vb,0,none⟩) vn vc)∧u.cell? ⟨vb,i*4,none⟩=some (.int .i64 x.id)∧u.cell? ⟨vb,i*4+1,none⟩=some (.string x.nm)∧u.cell? ⟨vb,i*4+2,none⟩=some (.bool x.fx)∧u.cell? ⟨vb,i*4+3,none⟩=some (.slice pa0 pn0 pc0)) u:=fun u hu=>⟨Ab hu k3,Ab hu e0,Ab hu e1,Ab hu e2,Ab hu e3⟩;have h0:=hy wL.drew ((Yg _ _).drew);refine ar_ (S:=(fun u=>u.cell? ⟨w.heap.size,3,none⟩=some (.slice (some ⟨vb,0,none⟩) vn vc)∧u.cell? ⟨vb,i*4,none⟩=some (.int .i64 x.id)∧u.cell? ⟨vb,i*4+1,none⟩=some (.string x.nm)∧u.cell? ⟨vb,i*4+2,none⟩=some (.bool x.fx)∧u.cell? ⟨vb,i*4+3,none⟩=some (.slice pa0 pn0 pc0))) 12 (by kernel_rfl) (by kernel_rfl) ?_;refine tk 0 ?_;refine tk 1 ?_;refine tk 2 ?_;refine tk 3 ?_;refine tk 4 ?_;refine tk 5 ?_;refine tk 6 ?_;refine tk 7 ?_;refine tk 8 ?_;refine tk 9 ?_;refine AW (i:=10) (by kernel_rfl) rfl (fun K hK=>?_);go_simp;refine (cB_ B x.id x.nm x.fx x.its pa0 pn0 pc0 irows file pa1 pn1 pc1 (AH q at0 [⟨0,0,ln0⟩]) _ ((RI.below hc).below ((Yg _ _).drew)) ((TI.below hc).below ((Yg _ _).drew)) ((Rp.mono hL).below ((Yg _ _).drew)) hR).mono ?_;rintro e w5 ⟨⟨a2,n2,cap2,nrows,rfl,RN,TN⟩,hv⟩;have hg:Below wL.heap.size wL w5:=Aa ((Yg _ _).drew) hv;have qd:=hg.size;dsimp only;refine hK.out _ _ (hy _ hg) (fun hHeld=>?_);clear hK K
 try simp only[Act.put,lsA,lsB,lsC]
 refine tk 11 ?_;refine wpAnyH_done (by kernel_rfl) ?_ _;refine BI rfl ?_;have hh:=Aa hc hg;have ht:=RL.below hg;obtain⟨vcs,VB⟩:=ht.blkAt;have z0:=VB.frozen (i*4);have z1':=VB.frozen (i*4+1);have z2':=VB.frozen (i*4+2);have z3':=VB.frozen (i*4+3);have v0:=Ab hg e0;have v1:=Ab hg e1;have v2:=Ab hg e2;have v3:=Ab hg e3;have he:=DW w5 vb (i*4) (.int .i64 x.id) (.string x.nm) (.bool x.fx) (.slice a2 n2 cap2);have hj:By w5 (some vb) 38:=aa_ VB;have R1:=ht.set4V hr ⟨x.id,x.nm,x.fx,a2,n2,cap2⟩;simp only at R1;have T1:=((h3.below hh).ty he hj (by decide) (by decide)).set i (show Bd B _ ⟨x.id,x.nm,x.fx,a2,n2,cap2⟩ ⟨x.id,x.nm,x.fx,A9 ⟨file,(AH q at0 [⟨0,0,ln0⟩])⟩ x.its⟩ from ⟨rfl,rfl,rfl,nrows,(RN.ty he hj (by decide)).mono (by simp only[World.size_drew] at *;omega),TN.ty he hj (by decide)⟩);have C2:=(CL.below hg).ty he hj (by decide);have D2:=(DL.below hg).ty he hj (by decide);have P2:Al B ((((w5.setCell ⟨vb,i*4,none⟩ (.int .i64 x.id)).setCell ⟨vb,i*4+1,none⟩ (.string x.nm)).setCell ⟨vb,i*4+2,none⟩ (.bool x.fx)).setCell ⟨vb,i*4+3,none⟩ (.slice a2 n2 cap2)) (.agg #[.int .i64 size,.int .i64 next,.slice ea en ec,.slice (some ⟨vb,0,none⟩) vn vc,.slice ra rn rc,.slice la ln lc]) ⟨size,next,ex,vs.set i ⟨x.id,x.nm,x.fx,A9 ⟨file,AH q at0 [⟨0,0,ln0⟩]⟩ x.its⟩,rf,lt⟩:=⟨ea,en,ec,some ⟨vb,0,none⟩,vn,vc,ra,rn,rc,la,ln,lc,_,rfl,((h1.below hc).below hg).ty he hj (by decide),⟨R1,T1⟩,(h4.below hh).ty he hj (by decide),(h5.below hh).ty he hj (by decide),h6⟩;obtain⟨y0,y1,y2,y3,y4,y5⟩:=C2.six';obtain⟨q0,q1,q2,q3,q4,q5⟩:=D2.six';obtain⟨m0,m1,m2,m3,m4,m5⟩:=fz6 D2;have hH:=(hh.mono hBw).grown he (by omega) (fun j e=>by cases e;exact hX);have qb:=he.size;have FT0:Hid (FrV w ((((w5.setCell ⟨vb,i*4,none⟩ (.int .i64 x.id)).setCell ⟨vb,i*4+1,none⟩ (.string x.nm)).setCell ⟨vb,i*4+2,none⟩ (.bool x.fx)).setCell ⟨vb,i*4+3,none⟩ (.slice a2 n2 cap2))):=fun k c t hb hA=>(hb.below hh).ty he hj hA;clear R1 T1 he ht VB hj hy;go_wp2;obtain⟨W8,hG,W0,hz⟩:=AU D2 (.int .i64 size) (.int .i64 next) (.slice ea en ec) (.slice (some ⟨vb,0,none⟩) vn vc) (.slice ra rn rc) (.slice la ln lc);have PF:=P2.tyP hz (aa_ D2);have B8:=hH.grown hz (by omega) (fun j e=>by cases e;omega);have FT:=fun (k:Nat) (c:Array Value) (t:TypeId) (hb:Blk w k c t) (hA:t≠38)=>(FT0.out k c t hb hA).offB hz (B:=w.heap.size) (fun j e=>by cases e;omega) hb.lt;rw[<-hG];clear hG;refine YW (ad_ rfl _ W8 (w.heap.size+2) _ _ _ _ _ rfl W0 underlying28 rfl (by kernel_rfl) rfl) rfl ?_;exact⟨⟨_,0,rfl,bm_ _ _ _ _ _ _ _ _ _ _ _ _ _ _,by rw[hS.out],fun _=>⟨by rw[hS.out];exact PF,by exact Zl (Zm Rp.sl.len) (by omega)⟩⟩,B8,FT⟩
theorem e7_ (B:Nat)(hB0:0<B)(v:Value)(p:Po)(o:Opr)(w:World)(h:Al B w v p)(hNn:NnE v)(hBw:B<=w.heap.size)(hd:AB p)(hp:Ai p=true)(hk:o.k=3)(i:Nat)(hso:volI p.vs o.vol=some i)(hfx:∀ x:Vo,p.vs[i]?=some x->x.fx=false)(q:List Pt)(hpo:Ar p.vs o.vol o.file=some q)(hl:0<=o.ln∧o.ln<=100)(hgt:Af q<o.ln):
  Calls prog 72 #[v,.agg #[.int .i64 o.k,.string o.vol,.string o.file,.string o.to,.string o.into,.int .i64 o.at',.int .i64 o.fr,.int .i64 o.ln,.string o.data]] w fun e w'=>(∃ v' c,e=.returned (.tuple #[v',.int .i64 c])∧Bg v'∧c=(Ap p o).1∧(c=0->Al B w' v' (Ap p o).2∧(Ah p o).2.2.length<=1000))∧Below B w w'∧FrV w w':=by
 have hD:=h.at';obtain⟨ea,en,ec,va,vn,vc,ra,rn,rc,la,ln,lc,rows,rfl,h1,⟨h2,h3⟩,h4,h5,h6⟩:=h;have hM:=hd;obtain⟨z1,z2,z3,z4,z5,z6,z7,z8⟩:=hd;have hV:Ba B w va vn p.vs:=h3.rows.vs h2;rw[hV.len] at z3;obtain⟨size,next,ex,vs,rf,lt⟩:=p;obtain⟨k,vol,file,tt,into,at0,fr,ln0,data⟩:=o;simp only at h1 h2 h3 h4 h5 hV z4 z3 hD hp hk ⊢;have _:=hB0;have _:=hNn;have _:=hBw;have _:=hp;have hT:vs.length=vn:=hV.len;have hW:rows.length=vn:=h2.sl.len;simp only at hso hfx hpo hl hgt;subst hk;have hi:=ap_ hso;have hO:i<vn:=by omega
 have hx:vs[i]?=some vs[i]:=by simp[hi]
 have h7:(0:Int)<=(i:Int):=by omega
 have hP:(i:Int)<vn:=by omega
 have hr:rows[i]?=some (rows[i]'(by omega)):=by simp[hW,hO]
 have VT:=h3.at' i _ _ hr hx;generalize rows[i]'(by omega)=r0 at *;generalize vs[i]=x at *;obtain⟨rid,rnm,rfx,pa0,pn0,pc0⟩:=r0;obtain⟨e1,e2,e3,irows,RI,TI⟩:=VT;simp only at e1 e2 e3 RI;subst e1 e2 e3;obtain⟨vb,rfl,hX,hY,hZ⟩:=h2.addr (by omega);have hf:=hfx _ hx;clear hfx;have hJ:Ah ⟨size,next,ex,vs,rf,lt⟩ ⟨3,vol,file,tt,into,at0,fr,ln0,data⟩=(0,ex,AH q (Af q) [⟨0,0,ln0-Af q⟩]):=by simp[Ah,hpo,hgt]
 have hS:Hid (Ap ⟨size,next,ex,vs,rf,lt⟩ ⟨3,vol,file,tt,into,at0,fr,ln0,data⟩=(0,⟨size,next,ex,vs.set i ⟨x.id,x.nm,x.fx,A9 ⟨file,AH q (Af q) [⟨0,0,ln0-Af q⟩]⟩ x.its⟩,rf,lt⟩)):=by show _=_;simp[Ap,hso,hx,hf,hJ]
 generalize hE:Ah ⟨size,next,ex,vs,rf,lt⟩ ⟨3,vol,file,tt,into,at0,fr,ln0,data⟩=PS at *;replace hE:Hid (Ah ⟨size,next,ex,vs,rf,lt⟩ ⟨3,vol,file,tt,into,at0,fr,ln0,data⟩=PS):=hE;generalize Ap ⟨size,next,ex,vs,rf,lt⟩ ⟨3,vol,file,tt,into,at0,fr,ln0,data⟩=R at *;have hN:Hid (x.fx=false):=hf;clear hf;go_enter func72,ntmps72
 go_wp2_with fail
 refine (ak_ B size next ea en ec (some ⟨vb,0,none⟩) vn vc ra rn rc la ln lc vs vol _ (hV.below (by go_grown)) z3).mono ?_;rintro e w1 ⟨rfl,hC⟩;obtain⟨C,O,D,hm,h9⟩:=bx3 hC;clear hC;rw[hso];simp only[Bo];obtain⟨c0,c1,c2,c3,c4,c5⟩:=C.six';obtain⟨o0,o1,o2,o3,o4,o5,o6,o7,o8⟩:=ce9 O;obtain⟨x0,x1,x2,x3,x4,x5⟩:=D.six';obtain⟨f0,f1,f2,f3,f4,f5⟩:=fz6 D;have RA:=h2.below hm;have e2:w1.cell? ⟨vb,i*4+2,none⟩=some (.bool x.fx):=RA.cellAt (j:=2) hr rfl;rw[hN.out] at e2
 go_wp2_with fail
 refine (aH_ B _ ⟨size,next,ex,vs,rf,lt⟩ vol file _ (hD.below hm) hM).mono ?_;rintro e wA ⟨hq,ho⟩;obtain⟨qa,qn,qc,rfl,hQ⟩:=hq.uni;clear hq;have hn:Ac ((Ar vs vol file).getD [])=true:=bH_ (p:=⟨size,next,ex,vs,rf,lt⟩) hp;simp only at hQ ⊢;clear c0 c1 c2 c3 c4 c5 o0 o1 o2 o3 o4 o5 o6 o7 o8 x0 x1 x2 x3 x4 x5 f0 f1 f2 f3 f4 f5;have C':=C.below ho;have D':=D.below ho;have O':=O.below ho;have hw:=Aa hm ho;have qe:=ho.size;clear C D O e2 RA;obtain⟨c0,c1,c2,c3,c4,c5⟩:=C'.six';obtain⟨o0,o1,o2,o3,o4,o5,o6,o7,o8⟩:=ce9 O';obtain⟨x0,x1,x2,x3,x4,x5⟩:=D'.six';obtain⟨f0,f1,f2,f3,f4,f5⟩:=fz6 D';rw[hpo] at hQ hn ⊢;simp only[Yw,Option.isSome_some] at hQ hn ⊢;have hU:qn<=16:=by rw[<-hQ.len];exact (ae_ hn).1
 have hs:∀ k,0<=Af (q.take k)∧Af (q.take k)<=100:=fun k=>by have h1:=a6_ (ae_ hn).2.1 k;have h2:=(ae_ hn).2.2;omega
 have hG:0<=Af q∧Af q<=100:=by have:=hs q.length;rwa [List.take_length] at this
 go_wp2_with fail
 refine (aZ_ qa qn qc q _ hQ (by omega) hs).mono ?_;rintro e wB ⟨rfl,rfl⟩;have hB:Ac [⟨0,0,ln0-Af q⟩]=true:=by simp[Ac,pgo,Ag];omega
 have qg:IntKind.i64.wrap (ln0-Af q)=ln0-Af q:=by rw[Ys];omega
 go_wp2_with fail
 refine (cM_ qa qn qc q (Af q) _ 1 1 [⟨0,0,ln0-Af q⟩] _ (hQ.below (by go_grown)) (ck_ _ ⟨0,0,ln0-Af q⟩ _ _ (by simp)) hn hB hG.1 hG.2).mono ?_;rintro e wL ⟨⟨pa1,pn1,pc1,rfl,h8,Rp⟩,hI⟩;have hj:Below wB.heap.size wB wL:=Aa (by go_grown) hI;have CL:=C'.below hj;have DL:=D'.below hj;have ha:=Aa hw hj;have hL:B<=(wB.alloc (.cells #[.int .i64 0,.int .i64 0,.int .i64 (ln0-Af q)] 146)).heap.size:=by simp;omega
 clear c0 c1 c2 c3 c4 c5 o0 o1 o2 o3 o4 o5 o6 o7 o8 x0 x1 x2 x3 x4 x5 f0 f1 f2 f3 f4 f5;have RL:=h2.below ha;have e0:wL.cell? ⟨vb,i*4,none⟩=some (.int .i64 x.id):=RL.cellAt (j:=0) hr rfl;have e1:wL.cell? ⟨vb,i*4+1,none⟩=some (.string x.nm):=RL.cellAt (j:=1) hr rfl;have e2:wL.cell? ⟨vb,i*4+2,none⟩=some (.bool x.fx):=RL.cellAt (j:=2) hr rfl;have e3:wL.cell? ⟨vb,i*4+3,none⟩=some (.slice pa0 pn0 pc0):=RL.cellAt (j:=3) hr rfl;have k3:wL.cell? ⟨w.heap.size,3,none⟩=some (.slice (some ⟨vb,0,none⟩) vn vc):=CL.cell 3;have qf:=ha.size;have hR:pn0<=4194304:=by have:=(z4 x (Zc hx)).2.1;rw[(TI.rows.its RI).len] at this;exact this
 go_wp2_with fail
 have hy:∀ u,Below wL.heap.size wL u->(fun u=>u.cell? ⟨w.heap.size,3,none⟩=some (.slice (some ⟨vb,0,none⟩) vn vc)∧u.cell? ⟨vb,i*4,none⟩=some (.int .i64 x.id)∧u.cell? ⟨vb,i*4+1,none⟩=some (.string x.nm)∧u.cell? ⟨vb,i*4+2,none⟩=some (.bool x.fx)∧u.cell? ⟨vb,i*4+3,none⟩=some (.slice pa0 pn0 pc0)) u:=fun u hu=>⟨Ab hu k3,Ab hu e0,Ab hu e1,Ab hu e2,Ab hu e3⟩;have h0:=hy wL.drew ((Yg _ _).drew);refine ar_ (S:=(fun u=>u.cell? ⟨w.heap.size,3,none⟩=some (.slice (some ⟨vb,0,none⟩) vn vc)∧u.cell? ⟨vb,i*4,none⟩=some (.int .i64 x.id)∧u.cell? ⟨vb,i*4+1,none⟩=some (.string x.nm)∧u.cell? ⟨vb,i*4+2,none⟩=some (.bool x.fx)∧u.cell? ⟨vb,i*4+3,none⟩=some (.slice pa0 pn0 pc0))) 12 (by kernel_rfl) (by kernel_rfl) ?_;refine tk 0 ?_;refine tk 1 ?_;refine tk 2 ?_;refine tk 3 ?_;refine tk 4 ?_;refine tk 5 ?_;refine tk 6 ?_;refine tk 7 ?_;refine tk 8 ?_;refine tk 9 ?_;refine AW (i:=10) (by kernel_rfl) rfl (fun K hK=>?_);go_simp;refine (cB_ B x.id x.nm x.fx x.its pa0 pn0 pc0 irows file pa1 pn1 pc1 (AH q (Af q) [⟨0,0,ln0-Af q⟩]) _ ((RI.below ha).below ((Yg _ _).drew)) ((TI.below ha).below ((Yg _ _).drew)) ((Rp.mono hL).below ((Yg _ _).drew)) hR).mono ?_;rintro e w5 ⟨⟨a2,n2,cap2,nrows,rfl,RN,TN⟩,hv⟩;have he:Below wL.heap.size wL w5:=Aa ((Yg _ _).drew) hv;have qd:=he.size;dsimp only;refine hK.out _ _ (hy _ he) (fun hHeld=>?_);clear hK K
 try simp only[Act.put,lsA,lsB,lsC]
 refine tk 11 ?_;refine wpAnyH_done (by kernel_rfl) ?_ _;refine BI rfl ?_;have hg:=Aa ha he;have ht:=RL.below he;obtain⟨vcs,VB⟩:=ht.blkAt;have z0:=VB.frozen (i*4);have z1':=VB.frozen (i*4+1);have z2':=VB.frozen (i*4+2);have z3':=VB.frozen (i*4+3);have v0:=Ab he e0;have v1:=Ab he e1;have v2:=Ab he e2;have v3:=Ab he e3;have hc:=DW w5 vb (i*4) (.int .i64 x.id) (.string x.nm) (.bool x.fx) (.slice a2 n2 cap2);have hh:By w5 (some vb) 38:=aa_ VB;have R1:=ht.set4V hr ⟨x.id,x.nm,x.fx,a2,n2,cap2⟩;simp only at R1;have T1:=((h3.below hg).ty hc hh (by decide) (by decide)).set i (show Bd B _ ⟨x.id,x.nm,x.fx,a2,n2,cap2⟩ ⟨x.id,x.nm,x.fx,A9 ⟨file,(AH q (Af q) [⟨0,0,ln0-Af q⟩])⟩ x.its⟩ from ⟨rfl,rfl,rfl,nrows,(RN.ty hc hh (by decide)).mono (by simp only[World.size_drew] at *;omega),TN.ty hc hh (by decide)⟩);have C2:=(CL.below he).ty hc hh (by decide);have D2:=(DL.below he).ty hc hh (by decide);have P2:Al B ((((w5.setCell ⟨vb,i*4,none⟩ (.int .i64 x.id)).setCell ⟨vb,i*4+1,none⟩ (.string x.nm)).setCell ⟨vb,i*4+2,none⟩ (.bool x.fx)).setCell ⟨vb,i*4+3,none⟩ (.slice a2 n2 cap2)) (.agg #[.int .i64 size,.int .i64 next,.slice ea en ec,.slice (some ⟨vb,0,none⟩) vn vc,.slice ra rn rc,.slice la ln lc]) ⟨size,next,ex,vs.set i ⟨x.id,x.nm,x.fx,A9 ⟨file,AH q (Af q) [⟨0,0,ln0-Af q⟩]⟩ x.its⟩,rf,lt⟩:=⟨ea,en,ec,some ⟨vb,0,none⟩,vn,vc,ra,rn,rc,la,ln,lc,_,rfl,((h1.below ha).below he).ty hc hh (by decide),⟨R1,T1⟩,(h4.below hg).ty hc hh (by decide),(h5.below hg).ty hc hh (by decide),h6⟩;obtain⟨y0,y1,y2,y3,y4,y5⟩:=C2.six';obtain⟨q0,q1,q2,q3,q4,q5⟩:=D2.six';obtain⟨m0,m1,m2,m3,m4,m5⟩:=fz6 D2;have hH:=(hg.mono hBw).grown hc (by omega) (fun j e=>by cases e;exact hX);have qb:=hc.size;have FT0:Hid (FrV w ((((w5.setCell ⟨vb,i*4,none⟩ (.int .i64 x.id)).setCell ⟨vb,i*4+1,none⟩ (.string x.nm)).setCell ⟨vb,i*4+2,none⟩ (.bool x.fx)).setCell ⟨vb,i*4+3,none⟩ (.slice a2 n2 cap2))):=fun k c t hb hA=>(hb.below hg).ty hc hh hA;clear R1 T1 hc ht VB hh hy;go_wp2;obtain⟨W8,hF,W0,hz⟩:=AU D2 (.int .i64 size) (.int .i64 next) (.slice ea en ec) (.slice (some ⟨vb,0,none⟩) vn vc) (.slice ra rn rc) (.slice la ln lc);have PF:=P2.tyP hz (aa_ D2);have B8:=hH.grown hz (by omega) (fun j e=>by cases e;omega);have FT:=fun (k:Nat) (c:Array Value) (t:TypeId) (hb:Blk w k c t) (hA:t≠38)=>(FT0.out k c t hb hA).offB hz (B:=w.heap.size) (fun j e=>by cases e;omega) hb.lt;rw[<-hF];clear hF;refine YW (ad_ rfl _ W8 (w.heap.size+2) _ _ _ _ _ rfl W0 underlying28 rfl (by kernel_rfl) rfl) rfl ?_;exact⟨⟨_,0,rfl,bm_ _ _ _ _ _ _ _ _ _ _ _ _ _ _,by rw[hS.out],fun _=>⟨by rw[hS.out];exact PF,by exact Zl (Zm Rp.sl.len) (by omega)⟩⟩,B8,FT⟩
theorem e8_ (B:Nat)(hB0:0<B)(v:Value)(p:Po)(o:Opr)(w:World)(h:Al B w v p)(hNn:NnE v)(hBw:B<=w.heap.size)(hd:AB p)(hp:Ai p=true)(hk:o.k=3)(i:Nat)(hso:volI p.vs o.vol=some i)(hfx:∀ x:Vo,p.vs[i]?=some x->x.fx=false)(q:List Pt)(hpo:Ar p.vs o.vol o.file=some q)(hl:0<=o.ln∧o.ln<=100)(hgt:¬ Af q<o.ln):
  Calls prog 72 #[v,.agg #[.int .i64 o.k,.string o.vol,.string o.file,.string o.to,.string o.into,.int .i64 o.at',.int .i64 o.fr,.int .i64 o.ln,.string o.data]] w fun e w'=>(∃ v' c,e=.returned (.tuple #[v',.int .i64 c])∧Bg v'∧c=(Ap p o).1∧(c=0->Al B w' v' (Ap p o).2∧(Ah p o).2.2.length<=1000))∧Below B w w'∧FrV w w':=by
 have hD:=h.at';obtain⟨ea,en,ec,va,vn,vc,ra,rn,rc,la,ln,lc,rows,rfl,h1,⟨h2,h3⟩,h4,h5,h6⟩:=h;have hL:=hd;obtain⟨z1,z2,z3,z4,z5,z6,z7,z8⟩:=hd;have hV:Ba B w va vn p.vs:=h3.rows.vs h2;rw[hV.len] at z3;obtain⟨size,next,ex,vs,rf,lt⟩:=p;obtain⟨k,vol,file,tt,into,at0,fr,ln0,data⟩:=o;simp only at h1 h2 h3 h4 h5 hV z4 z3 hD hp hk ⊢;have _:=hB0;have _:=hNn;have _:=hBw;have _:=hp;have hR:vs.length=vn:=hV.len;have hT:rows.length=vn:=h2.sl.len;simp only at hso hfx hpo hl hgt;subst hk;have hi:=ap_ hso;have hN:i<vn:=by omega
 have hx:vs[i]?=some vs[i]:=by simp[hi]
 have hZ:(0:Int)<=(i:Int):=by omega
 have hO:(i:Int)<vn:=by omega
 have hr:rows[i]?=some (rows[i]'(by omega)):=by simp[hT,hN]
 have VT:=h3.at' i _ _ hr hx;generalize rows[i]'(by omega)=r0 at *;generalize vs[i]=x at *;obtain⟨rid,rnm,rfx,pa0,pn0,pc0⟩:=r0;obtain⟨e1,e2,e3,irows,RI,TI⟩:=VT;simp only at e1 e2 e3 RI;subst e1 e2 e3;obtain⟨vb,rfl,hU,hW,hX⟩:=h2.addr (by omega);have hf:=hfx _ hx;clear hfx;have hI:Ah ⟨size,next,ex,vs,rf,lt⟩ ⟨3,vol,file,tt,into,at0,fr,ln0,data⟩=(0,ex,Ak [] (slp 0 ln0 0 q)):=by simp[Ah,hpo,hgt]
 have hS:Hid (Ap ⟨size,next,ex,vs,rf,lt⟩ ⟨3,vol,file,tt,into,at0,fr,ln0,data⟩=(0,⟨size,next,ex,vs.set i ⟨x.id,x.nm,x.fx,A9 ⟨file,Ak [] (slp 0 ln0 0 q)⟩ x.its⟩,rf,lt⟩)):=by show _=_;simp[Ap,hso,hx,hf,hI]
 generalize hE:Ah ⟨size,next,ex,vs,rf,lt⟩ ⟨3,vol,file,tt,into,at0,fr,ln0,data⟩=PS at *;replace hE:Hid (Ah ⟨size,next,ex,vs,rf,lt⟩ ⟨3,vol,file,tt,into,at0,fr,ln0,data⟩=PS):=hE;generalize Ap ⟨size,next,ex,vs,rf,lt⟩ ⟨3,vol,file,tt,into,at0,fr,ln0,data⟩=R at *;have hM:Hid (x.fx=false):=hf;clear hf;go_enter func72,ntmps72
 go_wp2_with fail
 refine (ak_ B size next ea en ec (some ⟨vb,0,none⟩) vn vc ra rn rc la ln lc vs vol _ (hV.below (by go_grown)) z3).mono ?_;rintro e w1 ⟨rfl,hC⟩;obtain⟨C,O,D,hm,h8⟩:=bx3 hC;clear hC;rw[hso];simp only[Bo];obtain⟨c0,c1,c2,c3,c4,c5⟩:=C.six';obtain⟨o0,o1,o2,o3,o4,o5,o6,o7,o8⟩:=ce9 O;obtain⟨x0,x1,x2,x3,x4,x5⟩:=D.six';obtain⟨f0,f1,f2,f3,f4,f5⟩:=fz6 D;have RA:=h2.below hm;have e2:w1.cell? ⟨vb,i*4+2,none⟩=some (.bool x.fx):=RA.cellAt (j:=2) hr rfl;rw[hM.out] at e2
 go_wp2_with fail
 refine (aH_ B _ ⟨size,next,ex,vs,rf,lt⟩ vol file _ (hD.below hm) hL).mono ?_;rintro e wA ⟨hq,ho⟩;obtain⟨qa,qn,qc,rfl,hQ⟩:=hq.uni;clear hq;have hn:Ac ((Ar vs vol file).getD [])=true:=bH_ (p:=⟨size,next,ex,vs,rf,lt⟩) hp;simp only at hQ ⊢;clear c0 c1 c2 c3 c4 c5 o0 o1 o2 o3 o4 o5 o6 o7 o8 x0 x1 x2 x3 x4 x5 f0 f1 f2 f3 f4 f5;have C':=C.below ho;have D':=D.below ho;have O':=O.below ho;have hw:=Aa hm ho;have qd:=ho.size;clear C D O e2 RA;obtain⟨c0,c1,c2,c3,c4,c5⟩:=C'.six';obtain⟨o0,o1,o2,o3,o4,o5,o6,o7,o8⟩:=ce9 O';obtain⟨x0,x1,x2,x3,x4,x5⟩:=D'.six';obtain⟨f0,f1,f2,f3,f4,f5⟩:=fz6 D';rw[hpo] at hQ hn ⊢;simp only[Yw,Option.isSome_some] at hQ hn ⊢;have hA:qn<=16:=by rw[<-hQ.len];exact (ae_ hn).1
 have hs:∀ k,0<=Af (q.take k)∧Af (q.take k)<=100:=fun k=>by have h1:=a6_ (ae_ hn).2.1 k;have h2:=(ae_ hn).2.2;omega
 have h7:0<=Af q∧Af q<=100:=by have:=hs q.length;rwa [List.take_length] at this
 go_wp2_with fail
 refine (aZ_ qa qn qc q _ hQ (by omega) hs).mono ?_;rintro e wB ⟨rfl,rfl⟩
 go_wp2_with fail
 refine (ba_ qa qn qc q 0 ln0 _ (hQ.below (by go_grown)) hA (hq_ hn) (by omega) (by omega) hl.1 (by omega)).mono ?_;rintro e wL ⟨⟨pa1,pn1,pc1,rfl,h0,Rp⟩,hH⟩;have hj:Below wB.heap.size wB wL:=hH;have CL:=C'.below hj;have DL:=D'.below hj;have ha:=Aa hw hj;have hJ:B<=wB.heap.size:=by omega
 clear c0 c1 c2 c3 c4 c5 o0 o1 o2 o3 o4 o5 o6 o7 o8 x0 x1 x2 x3 x4 x5 f0 f1 f2 f3 f4 f5;have RL:=h2.below ha;have e0:wL.cell? ⟨vb,i*4,none⟩=some (.int .i64 x.id):=RL.cellAt (j:=0) hr rfl;have e1:wL.cell? ⟨vb,i*4+1,none⟩=some (.string x.nm):=RL.cellAt (j:=1) hr rfl;have e2:wL.cell? ⟨vb,i*4+2,none⟩=some (.bool x.fx):=RL.cellAt (j:=2) hr rfl;have e3:wL.cell? ⟨vb,i*4+3,none⟩=some (.slice pa0 pn0 pc0):=RL.cellAt (j:=3) hr rfl;have k3:wL.cell? ⟨w.heap.size,3,none⟩=some (.slice (some ⟨vb,0,none⟩) vn vc):=CL.cell 3;have qe:=ha.size;have hP:pn0<=4194304:=by have:=(z4 x (Zc hx)).2.1;rw[(TI.rows.its RI).len] at this;exact this
 go_wp2_with fail
 have hy:∀ u,Below wL.heap.size wL u->(fun u=>u.cell? ⟨w.heap.size,3,none⟩=some (.slice (some ⟨vb,0,none⟩) vn vc)∧u.cell? ⟨vb,i*4,none⟩=some (.int .i64 x.id)∧u.cell? ⟨vb,i*4+1,none⟩=some (.string x.nm)∧u.cell? ⟨vb,i*4+2,none⟩=some (.bool x.fx)∧u.cell? ⟨vb,i*4+3,none⟩=some (.slice pa0 pn0 pc0)) u:=fun u hu=>⟨Ab hu k3,Ab hu e0,Ab hu e1,Ab hu e2,Ab hu e3⟩;have hY:=hy wL.drew ((Yg _ _).drew);refine ar_ (S:=(fun u=>u.cell? ⟨w.heap.size,3,none⟩=some (.slice (some ⟨vb,0,none⟩) vn vc)∧u.cell? ⟨vb,i*4,none⟩=some (.int .i64 x.id)∧u.cell? ⟨vb,i*4+1,none⟩=some (.string x.nm)∧u.cell? ⟨vb,i*4+2,none⟩=some (.bool x.fx)∧u.cell? ⟨vb,i*4+3,none⟩=some (.slice pa0 pn0 pc0))) 12 (by kernel_rfl) (by kernel_rfl) ?_;refine tk 0 ?_;refine tk 1 ?_;refine tk 2 ?_;refine tk 3 ?_;refine tk 4 ?_;refine tk 5 ?_;refine tk 6 ?_;refine tk 7 ?_;refine tk 8 ?_;refine tk 9 ?_;refine AW (i:=10) (by kernel_rfl) rfl (fun K hK=>?_);go_simp;refine (cB_ B x.id x.nm x.fx x.its pa0 pn0 pc0 irows file pa1 pn1 pc1 (Ak [] (slp 0 ln0 0 q)) _ ((RI.below ha).below ((Yg _ _).drew)) ((TI.below ha).below ((Yg _ _).drew)) ((Rp.mono hJ).below ((Yg _ _).drew)) hP).mono ?_;rintro e w5 ⟨⟨a2,n2,cap2,nrows,rfl,RN,TN⟩,hv⟩;have he:Below wL.heap.size wL w5:=Aa ((Yg _ _).drew) hv;have qb:=he.size;dsimp only;refine hK.out _ _ (hy _ he) (fun hHeld=>?_);clear hK K
 try simp only[Act.put,lsA,lsB,lsC]
 refine tk 11 ?_;refine wpAnyH_done (by kernel_rfl) ?_ _;refine BI rfl ?_;have hg:=Aa ha he;have ht:=RL.below he;obtain⟨vcs,VB⟩:=ht.blkAt;have z0:=VB.frozen (i*4);have z1':=VB.frozen (i*4+1);have z2':=VB.frozen (i*4+2);have z3':=VB.frozen (i*4+3);have v0:=Ab he e0;have v1:=Ab he e1;have v2:=Ab he e2;have v3:=Ab he e3;have hc:=DW w5 vb (i*4) (.int .i64 x.id) (.string x.nm) (.bool x.fx) (.slice a2 n2 cap2);have hh:By w5 (some vb) 38:=aa_ VB;have R1:=ht.set4V hr ⟨x.id,x.nm,x.fx,a2,n2,cap2⟩;simp only at R1;have T1:=((h3.below hg).ty hc hh (by decide) (by decide)).set i (show Bd B _ ⟨x.id,x.nm,x.fx,a2,n2,cap2⟩ ⟨x.id,x.nm,x.fx,A9 ⟨file,(Ak [] (slp 0 ln0 0 q))⟩ x.its⟩ from ⟨rfl,rfl,rfl,nrows,(RN.ty hc hh (by decide)).mono (by simp only[World.size_drew] at *;omega),TN.ty hc hh (by decide)⟩);have C2:=(CL.below he).ty hc hh (by decide);have D2:=(DL.below he).ty hc hh (by decide);have P2:Al B ((((w5.setCell ⟨vb,i*4,none⟩ (.int .i64 x.id)).setCell ⟨vb,i*4+1,none⟩ (.string x.nm)).setCell ⟨vb,i*4+2,none⟩ (.bool x.fx)).setCell ⟨vb,i*4+3,none⟩ (.slice a2 n2 cap2)) (.agg #[.int .i64 size,.int .i64 next,.slice ea en ec,.slice (some ⟨vb,0,none⟩) vn vc,.slice ra rn rc,.slice la ln lc]) ⟨size,next,ex,vs.set i ⟨x.id,x.nm,x.fx,A9 ⟨file,Ak [] (slp 0 ln0 0 q)⟩ x.its⟩,rf,lt⟩:=⟨ea,en,ec,some ⟨vb,0,none⟩,vn,vc,ra,rn,rc,la,ln,lc,_,rfl,((h1.below ha).below he).ty hc hh (by decide),⟨R1,T1⟩,(h4.below hg).ty hc hh (by decide),(h5.below hg).ty hc hh (by decide),h6⟩;obtain⟨y0,y1,y2,y3,y4,y5⟩:=C2.six';obtain⟨q0,q1,q2,q3,q4,q5⟩:=D2.six';obtain⟨m0,m1,m2,m3,m4,m5⟩:=fz6 D2;have hG:=(hg.mono hBw).grown hc (by omega) (fun j e=>by cases e;exact hU);have h9:=hc.size;have FT0:Hid (FrV w ((((w5.setCell ⟨vb,i*4,none⟩ (.int .i64 x.id)).setCell ⟨vb,i*4+1,none⟩ (.string x.nm)).setCell ⟨vb,i*4+2,none⟩ (.bool x.fx)).setCell ⟨vb,i*4+3,none⟩ (.slice a2 n2 cap2))):=fun k c t hb hB=>(hb.below hg).ty hc hh hB;clear R1 T1 hc ht VB hh hy;go_wp2;obtain⟨W8,hF,W0,hz⟩:=AU D2 (.int .i64 size) (.int .i64 next) (.slice ea en ec) (.slice (some ⟨vb,0,none⟩) vn vc) (.slice ra rn rc) (.slice la ln lc);have PF:=P2.tyP hz (aa_ D2);have B8:=hG.grown hz (by omega) (fun j e=>by cases e;omega);have FT:=fun (k:Nat) (c:Array Value) (t:TypeId) (hb:Blk w k c t) (hB:t≠38)=>(FT0.out k c t hb hB).offB hz (B:=w.heap.size) (fun j e=>by cases e;omega) hb.lt;rw[<-hF];clear hF;refine YW (ad_ rfl _ W8 (w.heap.size+2) _ _ _ _ _ rfl W0 underlying28 rfl (by kernel_rfl) rfl) rfl ?_;exact⟨⟨_,0,rfl,bm_ _ _ _ _ _ _ _ _ _ _ _ _ _ _,by rw[hS.out],fun _=>⟨by rw[hS.out];exact PF,by exact Zl (Zm Rp.sl.len) (by omega)⟩⟩,B8,FT⟩
end
section
open Go Go.RowKit Go.BigFrame Tryz
variable{α:Type}{s t:Int}{l:List Pt}{b m2 m3 m4 m5 n n2 n3 n4 n5:Nat}{c2 c3 c4 c5:Option Addr}{ty:TypeId}{w:World}
theorem qb_ {o:Nat}(h:AM w (some ⟨b,o,none⟩) n l)(hl:l≠[]):¬ Blk w b #[.int .i64 s,.int .i64 t,.slice c2 n2 m2,.slice c3 n3 m3,.slice c4 n4 m4,.slice c5 n5 m5] ty:=by
 intro C
 cases l with
 |nil=>exact hl rfl
 |cons p r=>
  obtain⟨b',o',e,hc⟩:=h.cell 0 p rfl
  cases e
  have q2:=hc 2 (.int .i64 p.n) rfl;rw[C.cell,Nat.zero_mul,Nat.add_zero] at q2
  match o,q2 with
  |0,q2=>simp at q2
  |1,q2=>simp at q2
  |2,q2=>simp at q2
  |3,q2=>simp at q2
  |o+4,q2=>simp at q2
theorem kV_ {qa:Option Addr}(h:AM w qa n l)(C:Blk w b #[.int .i64 s,.int .i64 t,.slice c2 n2 m2,.slice c3 n3 m3,.slice c4 n4 m4,.slice c5 n5 m5] ty)(j:Nat)(v:Value):AM (w.setCell ⟨b,j,none⟩ v) qa n l:=by
 by_cases hl:l=[]
 ·subst hl;exact⟨h.len,fun i x hx=>by simp at hx⟩
 ·refine h.grown (BW w b j v) (fun ad e hb=>?_);subst e;obtain⟨b',o',e,_⟩:=h.cell 0 _ (ZI (List.length_pos_iff.2 hl))
  cases e
  simp only at hb;subst hb;exact qb_ h hl C
theorem Ad.addrN {cs:α->List Value}{sz:Nat}{t:TypeId}{B cap:Nat}{a:Option Addr}{l:List α}(h:Ad cs sz t w B a n cap l)(hn:a≠none):∃ b,a=some ⟨b,0,none⟩∧n<=cap:=by
 rcases h.own with⟨h0,_⟩ | ⟨b,h1,_,h3,_⟩
 ·exact absurd h0 hn
 ·exact⟨b,h1,h3⟩
theorem gu_ (B:Nat)(hB0:0<B)(v:Value)(p:Po)(o:Opr)(w:World)(h:Al B w v p)(hNn:NnE v)(hBw:B<=w.heap.size)(hd:AB p)(hp:Ai p=true)(hk:o.k=2)(i:Nat)(hso:volI p.vs o.vol=some i)(hfx:∀ x:Vo,p.vs[i]?=some x->x.fx=false)(hda:As o.data=true)(hpl:AV p.size p.ex o.data=none):
  Calls prog 72 #[v,.agg #[.int .i64 o.k,.string o.vol,.string o.file,.string o.to,.string o.into,.int .i64 o.at',.int .i64 o.fr,.int .i64 o.ln,.string o.data]] w fun e w'=>(∃ v' c,e=.returned (.tuple #[v',.int .i64 c])∧Bg v'∧c=(Ap p o).1∧(c=0->Al B w' v' (Ap p o).2∧(Ah p o).2.2.length<=1000))∧Below B w w'∧FrV w w':=by
 have hl:=h.at';obtain⟨ea,en,ec,va,vn,vc,ra,rn,rc,la,ln,lc,rows,rfl,h1,⟨h2,h3⟩,h4,h5,h6⟩:=h;have hs:=hd;obtain⟨z1,z2,z3,z4,z5,z6,z7,z8⟩:=hd;have hV:Ba B w va vn p.vs:=h3.rows.vs h2;rw[hV.len] at z3;obtain⟨size,next,ex,vs,rf,lt⟩:=p;obtain⟨k,vol,file,tt,into,at0,fr,ln0,data⟩:=o;simp only at h1 h2 h3 h4 h5 hV z4 z3 hl hp hk ⊢;have _:=hB0;have _:=hNn;have _:=hBw;have _:=hp;have hA:ea≠none:=hNn _ _ _ _ _ _ _ _ rfl;obtain⟨eb,rfl,ht⟩:=h1.addrN hA;have hz:vs.length=vn:=hV.len;have hB:rows.length=vn:=h2.sl.len;simp only at hso hfx hda hpl;subst hk;have hi:=ap_ hso;have hw:i<vn:=by omega
 have hx:vs[i]?=some vs[i]:=by simp[hi]
 have hE:(0:Int)<=(i:Int):=by omega
 have hy:(i:Int)<vn:=by omega
 have hr:rows[i]?=some (rows[i]'(by omega)):=by simp[hB,hw]
 have VT:=h3.at' i _ _ hr hx;generalize rows[i]'(by omega)=r0 at *;generalize vs[i]=x at *;obtain⟨rid,rnm,rfx,pa0,pn0,pc0⟩:=r0;obtain⟨e1,e2,e3,irows,RI,TI⟩:=VT;simp only at e1 e2 e3 RI;subst e1 e2 e3;obtain⟨vb,rfl,hJ,hC,hD⟩:=h2.addr (by omega);have hf:=hfx _ hx;clear hfx;have ho:Ah ⟨size,next,ex,vs,rf,lt⟩ ⟨2,vol,file,tt,into,at0,fr,ln0,data⟩=(5,ex,[]):=by simp[Ah,hpl]
 have hS:Hid (Ap ⟨size,next,ex,vs,rf,lt⟩ ⟨2,vol,file,tt,into,at0,fr,ln0,data⟩=(5,⟨size,next,ex,vs,rf,lt⟩)):=by show _=_;simp[Ap,hso,hx,hf,ho]
 generalize hm:Ah ⟨size,next,ex,vs,rf,lt⟩ ⟨2,vol,file,tt,into,at0,fr,ln0,data⟩=PS at *;replace hm:Hid (Ah ⟨size,next,ex,vs,rf,lt⟩ ⟨2,vol,file,tt,into,at0,fr,ln0,data⟩=PS):=hm;generalize Ap ⟨size,next,ex,vs,rf,lt⟩ ⟨2,vol,file,tt,into,at0,fr,ln0,data⟩=R at *;have hu:Hid (x.fx=false):=hf;clear hf;go_enter func72,ntmps72
 go_wp2_with fail
 refine (ak_ B size next (some ⟨eb,0,none⟩) en ec (some ⟨vb,0,none⟩) vn vc ra rn rc la ln lc vs vol _ (hV.below (by go_grown)) z3).mono ?_;rintro e w1 ⟨rfl,hj⟩;obtain⟨C,O,D,hc,hG⟩:=bx3 hj;clear hj;rw[hso];simp only[Bo];obtain⟨c0,c1,c2,c3,c4,c5⟩:=C.six';obtain⟨o0,o1,o2,o3,o4,o5,o6,o7,o8⟩:=ce9 O;obtain⟨x0,x1,x2,x3,x4,x5⟩:=D.six';obtain⟨f0,f1,f2,f3,f4,f5⟩:=fz6 D;have RA:=h2.below hc;have e2:w1.cell? ⟨vb,i*4+2,none⟩=some (.bool x.fx):=RA.cellAt (j:=2) hr rfl;rw[hu.out] at e2
 go_wp2_with fail
 refine (aH_ B _ ⟨size,next,ex,vs,rf,lt⟩ vol file _ (hl.below hc) hs).mono ?_;rintro e wA ⟨hb,he⟩;obtain⟨qa,qn,qc,rfl,hQ⟩:=hb.uni;clear hb;have hF:Ac ((Ar vs vol file).getD [])=true:=bH_ (p:=⟨size,next,ex,vs,rf,lt⟩) hp;simp only at hQ ⊢;clear c0 c1 c2 c3 c4 c5 o0 o1 o2 o3 o4 o5 o6 o7 o8 x0 x1 x2 x3 x4 x5 f0 f1 f2 f3 f4 f5;have C':=C.below he;have D':=D.below he;have O':=O.below he;have hg:=Aa hc he;have hH:=he.size;clear C D O e2 RA;obtain⟨c0,c1,c2,c3,c4,c5⟩:=C'.six';obtain⟨o0,o1,o2,o3,o4,o5,o6,o7,o8⟩:=ce9 O';obtain⟨x0,x1,x2,x3,x4,x5⟩:=D'.six';obtain⟨f0,f1,f2,f3,f4,f5⟩:=fz6 D';have hq:data.size<=20:=by simp[As] at hda;omega
 go_wp2_with fail
 refine (gK_ size eb 0 en ec ex data _ (h1.sl.below hg) z2 (by rw[<-h1.sl.len];exact z1) ht (by omega)).mono ?_;rintro e wP ⟨hb,ha⟩;rw[hpl] at hb;obtain rfl:=hb;have D'':=D'.below ha;have C'':=C'.below ha;have hh:=Aa hg ha;have hI:=ha.size;clear c0 c1 c2 c3 c4 c5 o0 o1 o2 o3 o4 o5 o6 o7 o8 x0 x1 x2 x3 x4 x5 f0 f1 f2 f3 f4 f5;obtain⟨c0,c1,c2,c3,c4,c5⟩:=C''.six';have o0:wP.cell? ⟨w.heap.size+1,0,none⟩=some (.int .i64 2):=(O'.below ha).cell 0;have o1:wP.cell? ⟨w.heap.size+1,1,none⟩=some (.string vol):=(O'.below ha).cell 1;have o2:wP.cell? ⟨w.heap.size+1,2,none⟩=some (.string file):=(O'.below ha).cell 2;have o3:wP.cell? ⟨w.heap.size+1,3,none⟩=some (.string tt):=(O'.below ha).cell 3;have o4:wP.cell? ⟨w.heap.size+1,4,none⟩=some (.string into):=(O'.below ha).cell 4;have o5:wP.cell? ⟨w.heap.size+1,5,none⟩=some (.int .i64 at0):=(O'.below ha).cell 5;have o6:wP.cell? ⟨w.heap.size+1,6,none⟩=some (.int .i64 fr):=(O'.below ha).cell 6;have o7:wP.cell? ⟨w.heap.size+1,7,none⟩=some (.int .i64 ln0):=(O'.below ha).cell 7;have o8:wP.cell? ⟨w.heap.size+1,8,none⟩=some (.string data):=(O'.below ha).cell 8;obtain⟨x0,x1,x2,x3,x4,x5⟩:=D''.six';obtain⟨f0,f1,f2,f3,f4,f5⟩:=fz6 D'';go_wp2;obtain⟨W8,hn,W0,hv⟩:=AU D'' (.int .i64 size) (.int .i64 next) (.slice (some ⟨eb,0,none⟩) en ec) (.slice (some ⟨vb,0,none⟩) vn vc) (.slice ra rn rc) (.slice la ln lc);have B8:=hh.grown hv hh.size (fun j e=>by cases e;omega);rw[<-hn];clear hn;refine YW (ad_ rfl _ W8 (w.heap.size+2) _ _ _ _ _ rfl W0 underlying28 rfl (by kernel_rfl) rfl) rfl ?_;exact⟨⟨_,5,rfl,bm_ _ _ _ _ _ _ _ _ _ _ _ _ _ _,by rw[hS.out],fun h=>absurd h (by omega)⟩,B8.mono hBw,FrV.of B8⟩
end
end Go.Proofs.YtdmeabghpchckaaGreatDoor
