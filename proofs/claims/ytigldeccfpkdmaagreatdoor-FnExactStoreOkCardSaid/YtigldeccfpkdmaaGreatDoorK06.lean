/- l3Add of the model. l3Sum of the model. Names and owners: NameOk, ownerOk, the order of owners, of the program and of the model. -/
import Derived.Test.YtigldeccfpkdmaaGreatDoorProg
import Derived.Laws.StructEq
import Derived.Test.YtigldeccfpkdmaaGreatDoorK04
import Derived.Test.YtigldeccfpkdmaaGreatDoorK05
import Derived.Test.YtigldeccfpkdmaaGreatDoorK03
namespace Go.Proofs.YtigldeccfpkdmaaGreatDoor
open Go.RowKit Go.BigFrame
set_option maxHeartbeats 20000000
set_option maxRecDepth 100000
theorem eqlO (p q:Ow) (w:World):(binOp .eql 132 (.agg #[.int .i64 p.a,.int .i64 p.v,.string p.f]) (.agg #[.int .i64 q.a,.int .i64 q.v,.string q.f])).run Tryz.prog w=.ok (.bool (owEq p q)) w:=by
 have u2:=Tryz.underlying2
 have u9:=Tryz.underlying9
 have a2:=Tryz.isAgg2
 have a9:=Tryz.isAgg9
 have z2:=Tryz.sizeOf2
 have z9:=Tryz.sizeOf9
 have hS:Tryz.prog.underlying 132=some (.struct (Tryz.prog.fieldsOf 132)):=by kernel_rfl
 have hp:Tryz.prog.stoodInHeld 132=false:=by kernel_rfl
 rw [run_eql_struct,show (10000:Nat)=9999+1 from rfl,run_equalIn_agg w 9999 132 _ _ hS hp]
 simp only [Program.fieldsOf,Tryz.underlying132]
 go_simp
 unfold owEq
 by_cases h1:p.a=q.a<;>by_cases h2:p.v=q.v<;>by_cases h3:p.f.toList=q.f.toList<;>simp [h1,h2,h3]
/-- The first k rounds. -/
def addK (c:Ct) (l:List Ct) (k:Nat):List Ct×Bool:=(l.take k).foldl (addStep c) ([],false)
theorem mf_ {c:Ct} {l:List Ct} {k:Nat} {p:Ct} (h:l[k]?=some p):addK c l (k+1)=addStep c (addK c l k) p:=by
 have hk:=(List.getElem?_eq_some_iff.1 h).1
 unfold addK
 rw [List.take_add_one,h]
 simp
theorem na_ {c:Ct} {l:List Ct} {n:Nat} (h:l.length=n):addEnd c (addK c l n)=addC l c:=by
 unfold addK
 rw [List.take_of_length_le (Nat.le_of_eq h),iU_]
 rfl
theorem fG_ (a:Option Addr) (n cap:Nat) (l:List Ct) (c:Ct) (w:World) (h:CtsAt w a n l) (hn:n<=4194304) (hb:∀ x∈l,-1000000000000000<=x.n∧x.n<=1000000000000000) (hc:-1000000000000000<=c.n∧c.n<=1000000000000000) :
  Calls Tryz.prog 184 #[.slice a n cap,.agg #[.int .i64 c.o.a,.int .i64 c.o.v,.string c.o.f,.int .i64 c.n]] w fun e w'=>(∃ a' n' cap',e=.returned (.slice a' n' cap')∧n'<=n+1∧ResAt Ct.cs 4 134 w' w.heap.size a' n' cap' (addC l c))∧Below w.heap.size w w':=by
 have hlen:Hid (l.length=n):=h.len
 obtain ⟨i0,hi,hz0,hz1,hz2⟩:=info_parts infoC
 go_enter Tryz.func184,Tryz.ntmps184
 go_wp2_with fail
 go_loopw [5,6,7] (fun out dn ix wr=>∃ (k:Nat) (a2:Option Addr) (n2 cap2:Nat),k<=n∧ix=.int .i64 k∧dn=.bool (addK c l k).2∧out=.slice a2 n2 cap2∧n2<=k+(if (addK c l k).2=true then 1 else 0)∧ResAt Ct.cs 4 134 wr (w.heap.size+1) a2 n2 cap2 (addK c l k).1∧CtsAt wr (some ⟨w.heap.size,0,none⟩) 1 [c]∧w.heap.size+1<=wr.heap.size∧Below w.heap.size w wr) (fun _ _ ix _=>n-(intOf ix).toNat)
 case atStart=>exact ⟨0,_,0,0,Nat.zero_le _,rfl,rfl,rfl,Nat.zero_le _,a1_ (Blk.new' _ _ _ _ (by simp)) (by simp),(bR_ _ c _ _ rfl).alloc _,by simp,by go_grown⟩
 case round=>
  obtain ⟨k,a2,n2,cap2,hk,rfl,rfl,rfl,hn2,R2,C2,hw2,hB⟩:=hrel
  have hsz:=hB.size
  obtain ⟨_,_,c',hcb,hc',z0,z1,z2,z3⟩:=az_ C2 (k:=0) (by omega)
  cases hcb
  simp at hc'
  subst hc'
  simp only [Nat.zero_mul,Nat.add_zero,Nat.zero_add] at z0 z1 z2 z3
  by_cases hlt:k<n
  ·obtain ⟨b,o,p,rfl,hp,c0,c1,c2,c3⟩:=az_ (h.below hB) hlt
   have hst:Hid (addK c l (k+1)=addStep c (addK c l k) p):=mf_ hp
   obtain ⟨hb1,hb2⟩:=hb p (List.mem_of_getElem? hp)
   have hlb:b<wr.heap.size:=World.block_lt_of_cell? wr _ c0
   have hbw:b<w.heap.size:=by
    obtain ⟨b',o',p',hbo,_,d0,_⟩:=az_ h hlt
    obtain ⟨rfl,rfl⟩:b=b'∧o=o':=by simpa using hbo
    exact World.block_lt_of_cell? w _ d0
   clear hp hb
   generalize addK c l k=G at *
   obtain ⟨gk,d⟩:=G
   simp only at *
   have hk1:(k:Int)<n:=by omega
   have hk2:(0:Int)<=k:=by omega
   cases d
   ·have hn3:n2<=k:=by simpa using hn2
    clear hn2
    cases hl:owLt p.o c.o
    ·have heq:=eqlO p.o c.o
     cases hee:owEq p.o c.o
     ·have he:Hid (addStep c (gk,false) p=(gk++[c]++[p],true)):=by show _=_;simp [addStep,hl,hee]
      rw [hee] at heq
      go_wp2_with fail
      have g0:=gcell c0
      have g1:=gcell c1
      have g2:=gcell c2
      have g3:=gcell c3
      have k0:=gcell z0
      have k1:=gcell z1
      have k2:=gcell z2
      have k3:=gcell z3
      have hne:=aq_ wr
      refine aa_ (by kernel_rfl) (by kernel_rfl) ?_
      repeat (go_big_quiet_step (first | (go_at_call 214;have qq:=fun w=>au_ p.o c.o w;rw [hl] at qq;exact ag_ (qq _))))
      refine wpQuiet_nil ?_
      intro wq hx
      have hq:=ae_ hx
      clear hx g0 g1 g2 g3 k0 k1 k2 k3 hne
      have hqs:=hq.size
      replace R2:=R2.below hq
      replace hB:=chain hB hq
      replace z0:=bcell hq z0
      replace z1:=bcell hq z1
      replace z2:=bcell hq z2
      replace z3:=bcell hq z3
      replace c0:=bcell hq c0
      replace c1:=bcell hq c1
      replace c2:=bcell hq c2
      replace c3:=bcell hq c3
      replace hw2:=Nat.le_trans hw2 hqs
      replace hlb:=Nat.lt_of_lt_of_le hlb hqs
      replace hsz:=Nat.le_trans hsz hqs
      clear hq hqs
      clear C2
      go_wp2_with fail
      have g0:=gcell c0
      have g1:=gcell c1
      have g2:=gcell c2
      have g3:=gcell c3
      have k0:=gcell z0
      have k1:=gcell z1
      have k2:=gcell z2
      have k3:=gcell z3
      have hne:=aq_ wq
      refine aa_ (by kernel_rfl) (by kernel_rfl) ?_
      repeat (go_big_quiet_step (first | (go_at_call 214;have qq:=fun w=>au_ p.o c.o w;rw [hl] at qq;exact ag_ (qq _))))
      refine wpQuiet_nil ?_
      intro wq hx
      have hq:=ae_ hx
      clear hx g0 g1 g2 g3 k0 k1 k2 k3 hne
      have hqs:=hq.size
      replace R2:=R2.below hq
      replace hB:=chain hB hq
      replace z0:=bcell hq z0
      replace z1:=bcell hq z1
      replace z2:=bcell hq z2
      replace z3:=bcell hq z3
      replace c0:=bcell hq c0
      replace c1:=bcell hq c1
      replace c2:=bcell hq c2
      replace c3:=bcell hq c3
      replace hw2:=Nat.le_trans hw2 hqs
      replace hlb:=Nat.lt_of_lt_of_le hlb hqs
      replace hsz:=Nat.le_trans hsz hqs
      clear hq hqs
      go_wp2_with (first | (at_builtin;refine al_ rfl (fun K hK=>be_ _ _ 24 rfl (w.heap.size+1) 134 i0 (.agg #[.int .i64 0,.int .i64 0,.string .empty,.int .i64 0]) 40 Tryz.underlying24 hi hz0 hz1 hz2 rfl (by decide) a7_ bf_ a2 n2 cap2 gk rfl (R2.alloc _) _ 1 1 [c] rfl (bR_ _ c _ _ (by simp)) (fun ad h=>(by cases h;rfl)) (fun h=>(by cases h)) (n2+1) rfl (by unfold maxLen;omega) (by omega) (by simp;omega) (fun a3 cap3 w3 R3 hg3=>hK _ _ ?_));have hB3:Below w.heap.size w w3:=Below.grown (hB.alloc hsz _) hg3 (by simp;omega) (aI_ fun ad had=>(by have:=(R2.block ad had).1;omega));have y0:=hg3.cell (acell _ z0) (aw_ (fun ad had=>(R2.block ad had).1) (Nat.lt_succ_self _));have y1:=hg3.cell (acell _ z1) (aw_ (fun ad had=>(R2.block ad had).1) (Nat.lt_succ_self _));have y2:=hg3.cell (acell _ z2) (aw_ (fun ad had=>(R2.block ad had).1) (Nat.lt_succ_self _));have y3:=hg3.cell (acell _ z3) (aw_ (fun ad had=>(R2.block ad had).1) (Nat.lt_succ_self _));have hs3:w.heap.size+1<=w3.heap.size:=World.block_lt_of_cell? w3 _ y0;have d0:=hg3.cell (acell _ c0) (aw_ (fun ad had=>(R2.block ad had).1) (Nat.lt_succ_of_lt hbw));have d1:=hg3.cell (acell _ c1) (aw_ (fun ad had=>(R2.block ad had).1) (Nat.lt_succ_of_lt hbw));have d2:=hg3.cell (acell _ c2) (aw_ (fun ad had=>(R2.block ad had).1) (Nat.lt_succ_of_lt hbw));have d3:=hg3.cell (acell _ c3) (aw_ (fun ad had=>(R2.block ad had).1) (Nat.lt_succ_of_lt hbw));have hsz3:=hB3.size) | (at_builtin;refine al_ rfl (fun K hK=>be_ _ _ 24 rfl (w.heap.size+1) 134 i0 (.agg #[.int .i64 0,.int .i64 0,.string .empty,.int .i64 0]) 40 Tryz.underlying24 hi hz0 hz1 hz2 rfl (by decide) a7_ bf_ a3 (n2+1) cap3 (gk++[c]) rfl (R3.alloc _) _ 1 1 [p] rfl (bR_ _ p _ _ (by simp)) (fun ad h=>(by cases h;rfl)) (fun h=>(by cases h)) (n2+2) rfl (by unfold maxLen;omega) (by omega) (by simp;omega) (fun a4 cap4 w4 R4 hg4=>hK _ _ ?_))))
      have hB4:Below w.heap.size w w4:=Below.grown (hB3.alloc hsz3 _) hg4 (by simp;omega) (aI_ fun ad had=>(by have:=(R3.block ad had).1;omega))
      have x0:=hg4.cell (acell _ y0) (aw_ (fun ad had=>(R3.block ad had).1) (Nat.lt_succ_self _))
      have x1:=hg4.cell (acell _ y1) (aw_ (fun ad had=>(R3.block ad had).1) (Nat.lt_succ_self _))
      have x2:=hg4.cell (acell _ y2) (aw_ (fun ad had=>(R3.block ad had).1) (Nat.lt_succ_self _))
      have x3:=hg4.cell (acell _ y3) (aw_ (fun ad had=>(R3.block ad had).1) (Nat.lt_succ_self _))
      have hs4:w.heap.size+1<=w4.heap.size:=World.block_lt_of_cell? w4 _ x0
      go_wp2
      go_roundw
      case rel=>exact ⟨k+1,a4,n2+2,cap4,by omega,by go_num,by rw [hst.out,he.out],rfl,by rw [hst.out,he.out];simp;omega,by rw [hst.out,he.out];exact R4,dk_ x0 x1 x2 x3,hs4,hB4⟩
      case measure=>simp [intOf];omega
     ·rw [hee] at heq
      by_cases hs0:p.n+c.n=0
      ·have he:Hid (addStep c (gk,false) p=(gk,true)):=by show _=_;simp [addStep,hl,hee,hs0]
       go_wp2_with fail
       have g0:=gcell c0
       have g1:=gcell c1
       have g2:=gcell c2
       have g3:=gcell c3
       have k0:=gcell z0
       have k1:=gcell z1
       have k2:=gcell z2
       have k3:=gcell z3
       have hne:=aq_ wr
       refine aa_ (by kernel_rfl) (by kernel_rfl) ?_
       repeat (go_big_quiet_step (first | (go_at_call 214;have qq:=fun w=>au_ p.o c.o w;rw [hl] at qq;exact ag_ (qq _))))
       refine wpQuiet_nil ?_
       intro wq hx
       have hq:=ae_ hx
       clear hx g0 g1 g2 g3 k0 k1 k2 k3 hne
       have hqs:=hq.size
       replace R2:=R2.below hq
       replace hB:=chain hB hq
       replace z0:=bcell hq z0
       replace z1:=bcell hq z1
       replace z2:=bcell hq z2
       replace z3:=bcell hq z3
       replace c0:=bcell hq c0
       replace c1:=bcell hq c1
       replace c2:=bcell hq c2
       replace c3:=bcell hq c3
       replace hw2:=Nat.le_trans hw2 hqs
       replace hlb:=Nat.lt_of_lt_of_le hlb hqs
       replace hsz:=Nat.le_trans hsz hqs
       clear hq hqs
       clear C2
       go_wp2_with fail
       have g0:=gcell c0
       have g1:=gcell c1
       have g2:=gcell c2
       have g3:=gcell c3
       have k0:=gcell z0
       have k1:=gcell z1
       have k2:=gcell z2
       have k3:=gcell z3
       have hne:=aq_ wq
       refine aa_ (by kernel_rfl) (by kernel_rfl) ?_
       repeat (go_big_quiet_step (first | (go_at_call 214;have qq:=fun w=>au_ p.o c.o w;rw [hl] at qq;exact ag_ (qq _))))
       refine wpQuiet_nil ?_
       intro wq hx
       have hq:=ae_ hx
       clear hx g0 g1 g2 g3 k0 k1 k2 k3 hne
       have hqs:=hq.size
       replace R2:=R2.below hq
       replace hB:=chain hB hq
       replace z0:=bcell hq z0
       replace z1:=bcell hq z1
       replace z2:=bcell hq z2
       replace z3:=bcell hq z3
       replace c0:=bcell hq c0
       replace c1:=bcell hq c1
       replace c2:=bcell hq c2
       replace c3:=bcell hq c3
       replace hw2:=Nat.le_trans hw2 hqs
       replace hlb:=Nat.lt_of_lt_of_le hlb hqs
       replace hsz:=Nat.le_trans hsz hqs
       clear hq hqs
       go_wp2_with fail
       have g0:=gcell c0
       have g1:=gcell c1
       have g2:=gcell c2
       have g3:=gcell c3
       have k0:=gcell z0
       have k1:=gcell z1
       have k2:=gcell z2
       have k3:=gcell z3
       have hne:=aq_ wq
       refine aa_ (by kernel_rfl) (by kernel_rfl) ?_
       repeat (go_big_quiet_step (first | (go_at_call 214;have qq:=fun w=>au_ p.o c.o w;rw [hl] at qq;exact ag_ (qq _))))
       refine wpQuiet_nil ?_
       intro wq hx
       have hq:=ae_ hx
       clear hx g0 g1 g2 g3 k0 k1 k2 k3 hne
       have hqs:=hq.size
       replace R2:=R2.below hq
       replace hB:=chain hB hq
       replace z0:=bcell hq z0
       replace z1:=bcell hq z1
       replace z2:=bcell hq z2
       replace z3:=bcell hq z3
       replace c0:=bcell hq c0
       replace c1:=bcell hq c1
       replace c2:=bcell hq c2
       replace c3:=bcell hq c3
       replace hw2:=Nat.le_trans hw2 hqs
       replace hlb:=Nat.lt_of_lt_of_le hlb hqs
       replace hsz:=Nat.le_trans hsz hqs
       clear hq hqs
       go_wp2
       go_roundw
       case rel=>exact ⟨k+1,a2,n2,cap2,by omega,by go_num,by rw [hst.out,he.out],rfl,by rw [hst.out,he.out];simp;omega,by rw [hst.out,he.out];exact R2,dk_ z0 z1 z2 z3,hw2,hB⟩
       case measure=>simp [intOf];omega
      ·have he:Hid (addStep c (gk,false) p=(gk++[⟨c.o,p.n+c.n⟩],true)):=by show _=_;simp [addStep,hl,hee,hs0]
       go_wp2_with fail
       have g0:=gcell c0
       have g1:=gcell c1
       have g2:=gcell c2
       have g3:=gcell c3
       have k0:=gcell z0
       have k1:=gcell z1
       have k2:=gcell z2
       have k3:=gcell z3
       have hne:=aq_ wr
       refine aa_ (by kernel_rfl) (by kernel_rfl) ?_
       repeat (go_big_quiet_step (first | (go_at_call 214;have qq:=fun w=>au_ p.o c.o w;rw [hl] at qq;exact ag_ (qq _))))
       refine wpQuiet_nil ?_
       intro wq hx
       have hq:=ae_ hx
       clear hx g0 g1 g2 g3 k0 k1 k2 k3 hne
       have hqs:=hq.size
       replace R2:=R2.below hq
       replace hB:=chain hB hq
       replace z0:=bcell hq z0
       replace z1:=bcell hq z1
       replace z2:=bcell hq z2
       replace z3:=bcell hq z3
       replace c0:=bcell hq c0
       replace c1:=bcell hq c1
       replace c2:=bcell hq c2
       replace c3:=bcell hq c3
       replace hw2:=Nat.le_trans hw2 hqs
       replace hlb:=Nat.lt_of_lt_of_le hlb hqs
       replace hsz:=Nat.le_trans hsz hqs
       clear hq hqs
       clear C2
       go_wp2_with fail
       have g0:=gcell c0
       have g1:=gcell c1
       have g2:=gcell c2
       have g3:=gcell c3
       have k0:=gcell z0
       have k1:=gcell z1
       have k2:=gcell z2
       have k3:=gcell z3
       have hne:=aq_ wq
       refine aa_ (by kernel_rfl) (by kernel_rfl) ?_
       repeat (go_big_quiet_step (first | (go_at_call 214;have qq:=fun w=>au_ p.o c.o w;rw [hl] at qq;exact ag_ (qq _))))
       refine wpQuiet_nil ?_
       intro wq hx
       have hq:=ae_ hx
       clear hx g0 g1 g2 g3 k0 k1 k2 k3 hne
       have hqs:=hq.size
       replace R2:=R2.below hq
       replace hB:=chain hB hq
       replace z0:=bcell hq z0
       replace z1:=bcell hq z1
       replace z2:=bcell hq z2
       replace z3:=bcell hq z3
       replace c0:=bcell hq c0
       replace c1:=bcell hq c1
       replace c2:=bcell hq c2
       replace c3:=bcell hq c3
       replace hw2:=Nat.le_trans hw2 hqs
       replace hlb:=Nat.lt_of_lt_of_le hlb hqs
       replace hsz:=Nat.le_trans hsz hqs
       clear hq hqs
       go_wp2_with fail
       have g0:=gcell c0
       have g1:=gcell c1
       have g2:=gcell c2
       have g3:=gcell c3
       have k0:=gcell z0
       have k1:=gcell z1
       have k2:=gcell z2
       have k3:=gcell z3
       have hne:=aq_ wq
       refine aa_ (by kernel_rfl) (by kernel_rfl) ?_
       repeat (go_big_quiet_step (first | (go_at_call 214;have qq:=fun w=>au_ p.o c.o w;rw [hl] at qq;exact ag_ (qq _))))
       refine wpQuiet_nil ?_
       intro wq hx
       have hq:=ae_ hx
       clear hx g0 g1 g2 g3 k0 k1 k2 k3 hne
       have hqs:=hq.size
       replace R2:=R2.below hq
       replace hB:=chain hB hq
       replace z0:=bcell hq z0
       replace z1:=bcell hq z1
       replace z2:=bcell hq z2
       replace z3:=bcell hq z3
       replace c0:=bcell hq c0
       replace c1:=bcell hq c1
       replace c2:=bcell hq c2
       replace c3:=bcell hq c3
       replace hw2:=Nat.le_trans hw2 hqs
       replace hlb:=Nat.lt_of_lt_of_le hlb hqs
       replace hsz:=Nat.le_trans hsz hqs
       clear hq hqs
       have hwr:Hid (IntKind.i64.wrap (p.n+c.n)=p.n+c.n):=by show _=_;rw [IntKind.wrap_i64];omega
       go_wp2_with fail
       go_region_held3 (fun u=>u.cell? ⟨w.heap.size,0,none⟩=some (.int .i64 c.o.a)∧u.cell? ⟨w.heap.size,1,none⟩=some (.int .i64 c.o.v)∧u.cell? ⟨w.heap.size,2,none⟩=some (.string c.o.f)∧u.cell? ⟨w.heap.size,3,none⟩=some (.int .i64 c.n)∧u.cell? ⟨b,o+k*4+3,none⟩=some (.int .i64 p.n)) (go_keep) (first | (refine aD_ rfl (be_ _ _ 24 rfl (w.heap.size+1) 134 i0 (.agg #[.int .i64 0,.int .i64 0,.string .empty,.int .i64 0]) 40 Tryz.underlying24 hi hz0 hz1 hz2 rfl (by decide) a7_ bf_ a2 n2 cap2 gk rfl (R2.below (by go_grown)) _ 1 1 [(⟨c.o,IntKind.i64.wrap (p.n+c.n)⟩:Ct)] rfl (by first | exact bR_ _ (⟨c.o,IntKind.i64.wrap (p.n+c.n)⟩:Ct) _ _ (by first | rfl | simp) | exact (bR_ _ (⟨c.o,IntKind.i64.wrap (p.n+c.n)⟩:Ct) _ _ (by first | rfl | simp)).drew) (fun ad h=>(by cases h;rfl)) (fun h=>(by cases h)) (n2+1) rfl (by unfold maxLen;omega) (by omega) (by first | omega | (simp;omega) | (show w.heap.size+1<=(World.alloc _ _).heap.size;simp;omega)) ?_);intro a3 cap3 w3 R3 hg3;have y0:=hg3.cell (a:=⟨w.heap.size,0,none⟩) (by first | exact acell _ z0 | exact acell _ (acell _ z0)) (aw_ (fun ad had=>(R2.block ad had).1) (Nat.lt_succ_self _));have y1:=hg3.cell (a:=⟨w.heap.size,1,none⟩) (by first | exact acell _ z1 | exact acell _ (acell _ z1)) (aw_ (fun ad had=>(R2.block ad had).1) (Nat.lt_succ_self _));have y2:=hg3.cell (a:=⟨w.heap.size,2,none⟩) (by first | exact acell _ z2 | exact acell _ (acell _ z2)) (aw_ (fun ad had=>(R2.block ad had).1) (Nat.lt_succ_self _));have y3:=hg3.cell (a:=⟨w.heap.size,3,none⟩) (by first | exact acell _ z3 | exact acell _ (acell _ z3)) (aw_ (fun ad had=>(R2.block ad had).1) (Nat.lt_succ_self _));have yb:=hg3.cell (a:=⟨b,o+k*4+3,none⟩) (by first | exact acell _ c3 | exact acell _ (acell _ c3)) (aw_ (fun ad had=>(R2.block ad had).1) (Nat.lt_succ_of_lt hbw))))
       have hB3:Below w.heap.size w w3:=Below.grown (chain hB (by go_grown)) hg3 (by first | omega | (simp;omega)) (aI_ fun ad had=>(by have:=(R2.block ad had).1;omega))
       have hs3:w.heap.size+1<=w3.heap.size:=World.block_lt_of_cell? w3 _ y0
       rw [hwr.out] at R3
       go_wp2
       go_roundw
       case rel=>exact ⟨k+1,a3,n2+1,cap3,by omega,by go_num,by rw [hst.out,he.out],rfl,by rw [hst.out,he.out];simp;omega,by rw [hst.out,he.out];exact R3,dk_ y0 y1 y2 y3,hs3,hB3⟩
       case measure=>simp [intOf];omega
    ·have he:Hid (addStep c (gk,false) p=(gk++[p],false)):=by show _=_;simp [addStep,hl]
     go_wp2_with fail
     have g0:=gcell c0
     have g1:=gcell c1
     have g2:=gcell c2
     have g3:=gcell c3
     have k0:=gcell z0
     have k1:=gcell z1
     have k2:=gcell z2
     have k3:=gcell z3
     have hne:=aq_ wr
     refine aa_ (by kernel_rfl) (by kernel_rfl) ?_
     repeat (go_big_quiet_step (first | (go_at_call 214;have qq:=fun w=>au_ p.o c.o w;rw [hl] at qq;exact ag_ (qq _))))
     refine wpQuiet_nil ?_
     intro wq hx
     have hq:=ae_ hx
     clear hx g0 g1 g2 g3 k0 k1 k2 k3 hne
     have hqs:=hq.size
     replace R2:=R2.below hq
     replace hB:=chain hB hq
     replace z0:=bcell hq z0
     replace z1:=bcell hq z1
     replace z2:=bcell hq z2
     replace z3:=bcell hq z3
     replace c0:=bcell hq c0
     replace c1:=bcell hq c1
     replace c2:=bcell hq c2
     replace c3:=bcell hq c3
     replace hw2:=Nat.le_trans hw2 hqs
     replace hlb:=Nat.lt_of_lt_of_le hlb hqs
     replace hsz:=Nat.le_trans hsz hqs
     clear hq hqs
     clear C2
     go_wp2_with (at_builtin;refine al_ rfl (fun K hK=>be_ _ _ 24 rfl (w.heap.size+1) 134 i0 (.agg #[.int .i64 0,.int .i64 0,.string .empty,.int .i64 0]) 40 Tryz.underlying24 hi hz0 hz1 hz2 rfl (by decide) a7_ bf_ a2 n2 cap2 gk rfl (R2.alloc _) _ 1 1 [p] rfl (bR_ _ p _ _ (by simp)) (fun ad h=>(by cases h;rfl)) (fun h=>(by cases h)) (n2+1) rfl (by unfold maxLen;omega) (by omega) (by simp;omega) (fun a3 cap3 w3 R3 hg3=>hK _ _ ?_)))
     have hB3:Below w.heap.size w w3:=Below.grown (hB.alloc hsz _) hg3 (by simp;omega) (aI_ fun ad had=>(by have:=(R2.block ad had).1;omega))
     have y0:=hg3.cell (acell _ z0) (aw_ (fun ad had=>(R2.block ad had).1) (Nat.lt_succ_self _))
     have y1:=hg3.cell (acell _ z1) (aw_ (fun ad had=>(R2.block ad had).1) (Nat.lt_succ_self _))
     have y2:=hg3.cell (acell _ z2) (aw_ (fun ad had=>(R2.block ad had).1) (Nat.lt_succ_self _))
     have y3:=hg3.cell (acell _ z3) (aw_ (fun ad had=>(R2.block ad had).1) (Nat.lt_succ_self _))
     have hs3:w.heap.size+1<=w3.heap.size:=World.block_lt_of_cell? w3 _ y0
     go_wp2
     go_roundw
     case rel=>exact ⟨k+1,a3,n2+1,cap3,by omega,by go_num,by rw [hst.out,he.out],rfl,by rw [hst.out,he.out];simp;omega,by rw [hst.out,he.out];exact R3,dk_ y0 y1 y2 y3,hs3,hB3⟩
     case measure=>simp [intOf];omega
   ·have he:Hid (addStep c (gk,true) p=(gk++[p],true)):=by show _=_;simp [addStep]
    have hn3:n2<=k+1:=by simpa using hn2
    clear hn2
    go_wp2_with fail
    go_quiet (fail)
    have hq:=drewNB wr nq
    have hqs:=hq.size
    replace R2:=R2.below hq
    replace hB:=chain hB hq
    replace z0:=bcell hq z0
    replace z1:=bcell hq z1
    replace z2:=bcell hq z2
    replace z3:=bcell hq z3
    replace c0:=bcell hq c0
    replace c1:=bcell hq c1
    replace c2:=bcell hq c2
    replace c3:=bcell hq c3
    replace hw2:=Nat.le_trans hw2 hqs
    replace hlb:=Nat.lt_of_lt_of_le hlb hqs
    replace hsz:=Nat.le_trans hsz hqs
    clear hq hqs C2
    generalize wr.drewN nq=wq at *
    go_wp2_with (at_builtin;refine al_ rfl (fun K hK=>be_ _ _ 24 rfl (w.heap.size+1) 134 i0 (.agg #[.int .i64 0,.int .i64 0,.string .empty,.int .i64 0]) 40 Tryz.underlying24 hi hz0 hz1 hz2 rfl (by decide) a7_ bf_ a2 n2 cap2 gk rfl (R2.alloc _) _ 1 1 [p] rfl (bR_ _ p _ _ (by simp)) (fun ad h=>(by cases h;rfl)) (fun h=>(by cases h)) (n2+1) rfl (by unfold maxLen;omega) (by omega) (by simp;omega) (fun a3 cap3 w3 R3 hg3=>hK _ _ ?_)))
    have hB3:Below w.heap.size w w3:=Below.grown (hB.alloc hsz _) hg3 (by simp;omega) (aI_ fun ad had=>(by have:=(R2.block ad had).1;omega))
    have y0:=hg3.cell (acell _ z0) (aw_ (fun ad had=>(R2.block ad had).1) (Nat.lt_succ_self _))
    have y1:=hg3.cell (acell _ z1) (aw_ (fun ad had=>(R2.block ad had).1) (Nat.lt_succ_self _))
    have y2:=hg3.cell (acell _ z2) (aw_ (fun ad had=>(R2.block ad had).1) (Nat.lt_succ_self _))
    have y3:=hg3.cell (acell _ z3) (aw_ (fun ad had=>(R2.block ad had).1) (Nat.lt_succ_self _))
    have hs3:w.heap.size+1<=w3.heap.size:=World.block_lt_of_cell? w3 _ y0
    go_wp2
    go_roundw
    case rel=>exact ⟨k+1,a3,n2+1,cap3,by omega,by go_num,by rw [hst.out,he.out],rfl,by rw [hst.out,he.out];simp;omega,by rw [hst.out,he.out];exact R3,dk_ y0 y1 y2 y3,hs3,hB3⟩
    case measure=>simp [intOf];omega
  ·obtain rfl:k=n:=by omega
   have hst:Hid (addEnd c (addK c l k)=addC l c):=na_ hlen.out
   generalize addK c l k=G at *
   obtain ⟨gk,d⟩:=G
   simp only at *
   cases d
   ·have he:Hid (addEnd c (gk,false)=gk++[c]):=by show _=_;simp [addEnd]
    have hn3:n2<=k:=by simpa using hn2
    clear hn2 C2
    go_wp2_with (at_builtin;refine al_ rfl (fun K hK=>be_ _ _ 24 rfl (w.heap.size+1) 134 i0 (.agg #[.int .i64 0,.int .i64 0,.string .empty,.int .i64 0]) 40 Tryz.underlying24 hi hz0 hz1 hz2 rfl (by decide) a7_ bf_ a2 n2 cap2 gk rfl (R2.alloc _) _ 1 1 [c] rfl (bR_ _ c _ _ (by simp)) (fun ad h=>(by cases h;rfl)) (fun h=>(by cases h)) (n2+1) rfl (by unfold maxLen;omega) (by omega) (by simp;omega) (fun a3 cap3 w3 R3 hg3=>hK _ _ ?_)))
    have hB3:Below w.heap.size w w3:=Below.grown (hB.alloc hsz _) hg3 (by simp;omega) (aI_ fun ad had=>(by have:=(R2.block ad had).1;omega))
    go_wp2
    go_returns
    exact ⟨⟨a3,n2+1,cap3,rfl,by omega,by rw [<-hst.out,he.out];exact R3.mono (by omega)⟩,hB3⟩
   ·have he:Hid (addEnd c (gk,true)=gk):=by show _=_;simp [addEnd]
    have hn3:n2<=k+1:=by simpa using hn2
    clear hn2
    go_wp2
    go_returns
    exact ⟨⟨a2,n2,cap2,rfl,by omega,by rw [<-hst.out,he.out];exact R2.mono (by omega)⟩,hB⟩
theorem dK_ {B D:Int} (hB:0<=B) (hD:0<=D) {c:Ct} (h1:-D<=c.n) (h2:c.n<=D):∀ {l:List Ct},(∀ x∈l,-B<=x.n∧x.n<=B)->∀ x∈addC l c,-(B+D)<=x.n∧x.n<=B+D
 |[],_=>by intro x hx;simp [addC] at hx;subst hx;omega
 |y::r,h=>by
  have hy:=h y (by simp)
  have hr:∀ x∈r,-B<=x.n∧x.n<=B:=fun x hx=>h x (by simp [hx])
  have hr':∀ x∈r,-(B+D)<=x.n∧x.n<=B+D:=fun x hx=>by have:=hr x hx;omega
  unfold addC
  split
  ·intro x hx
   rcases List.mem_cons.1 hx with rfl | hx
   ·omega
   ·exact dK_ hB hD h1 h2 hr x hx
  ·split
   ·split
    ·intro x hx
     rcases List.mem_cons.1 hx with rfl | hx
     ·simp only;omega
     ·exact hr' x hx
    ·exact hr'
   ·intro x hx
    rcases List.mem_cons.1 hx with rfl | hx
    ·omega
    ·rcases List.mem_cons.1 hx with rfl | hx
     ·omega
     ·exact hr' x hx
theorem kq_ {B:Int} (hB:0<=B) {c:Ct} (h1:-1000<=c.n) (h2:c.n<=1000) {l:List Ct} (h:∀ x∈l,-B<=x.n∧x.n<=B):∀ x∈addC l c,-(B+1000)<=x.n∧x.n<=B+1000:=dK_ hB (by omega) h1 h2 h
/-- The first k of them added. -/
def sumK (l more:List Ct) (k:Nat):List Ct:=(more.take k).foldl addC l
theorem mg_ {l more:List Ct} {k:Nat} {p:Ct} (h:more[k]?=some p):sumK l more (k+1)=addC (sumK l more k) p:=by
 unfold sumK
 rw [List.take_add_one,h]
 simp
theorem nb_ {l more:List Ct} {n:Nat} (h:more.length=n):sumK l more n=sumC l more:=by
 unfold sumK sumC
 rw [List.take_of_length_le (Nat.le_of_eq h)]
theorem iW_ (a:Option Addr) (n cap:Nat) (l:List Ct) (a':Option Addr) (n' cap':Nat) (more:List Ct) (w:World) (h:CtsAt w a n l) (ha1:∀ ad,a=some ad->ad.spot=none) (ha2:a=none->cap=0) (h':CtsAt w a' n' more) (hn:n<=100000) (hn':n'<=100000) (hb:∀ x∈l,-100000000<=x.n∧x.n<=100000000) (hb':∀ x∈more,-100000000<=x.n∧x.n<=100000000) :
  Calls Tryz.prog 183 #[.slice a n cap,.slice a' n' cap'] w fun e w'=>(∃ a2 n2 cap2,e=.returned (.slice a2 n2 cap2)∧n2<=n+n'∧ResAt Ct.cs 4 134 w' w.heap.size a2 n2 cap2 (sumC l more))∧Below w.heap.size w w':=by
 have hlen:Hid (l.length=n):=h.len
 have hlen':Hid (more.length=n'):=h'.len
 obtain ⟨i0,hi,hz0,hz1,hz2⟩:=info_parts infoC
 go_enter Tryz.func183,Tryz.ntmps183
 go_wp2_with (at_builtin;refine al_ rfl (fun K hK=>be_ _ _ 24 rfl w.heap.size 134 i0 (.agg #[.int .i64 0,.int .i64 0,.string .empty,.int .i64 0]) 40 Tryz.underlying24 hi hz0 hz1 hz2 rfl (by decide) a7_ bf_ _ 0 0 [] rfl (a1_ (Blk.new' _ _ _ _ (by simp)) (by simp)) a n cap l rfl (h.alloc _) ha1 ha2 n (Nat.zero_add _) (by unfold maxLen;omega) (by omega) (by simp) (fun a1 cap1 w1 hr1 hg1=>hK _ _ ?_)))
 have hB1:Below w.heap.size w w1:=Below.grown (by go_grown) hg1 (by simp) (fun k e=>by simp [Value.ownBlock] at e;omega)
 rw [List.nil_append] at hr1
 go_loopw [5,6] (fun out ix wr=>∃ (k:Nat) (a2:Option Addr) (n2 cap2:Nat),k<=n'∧ix=.int .i64 k∧out=.slice a2 n2 cap2∧n2<=n+k∧ResAt Ct.cs 4 134 wr w.heap.size a2 n2 cap2 (sumK l more k)∧(∀ x∈sumK l more k,-(100000000+100000000*(k:Int))<=x.n∧x.n<=100000000+100000000*(k:Int))∧Below w.heap.size w wr) (fun _ ix _=>n'-(intOf ix).toNat)
 case atStart=>exact ⟨0,_,n,cap1,Nat.zero_le _,rfl,rfl,by omega,hr1,by simpa [sumK] using hb,hB1⟩
 case round=>
  obtain ⟨k,a2,n2,cap2,hk,rfl,rfl,hn2,R2,hbk,hB⟩:=hrel
  have hsz:=hB.size
  by_cases hlt:k<n'
  ·obtain ⟨b,o,p,rfl,hp,c0,c1,c2,c3⟩:=az_ (h'.below hB) hlt
   have hst:Hid (sumK l more (k+1)=addC (sumK l more k) p):=mg_ hp
   obtain ⟨hb1,hb2⟩:=hb' p (List.mem_of_getElem? hp)
   have hbn:=dK_ (B:=100000000+100000000*(k:Int)) (D:=100000000) (by omega) (by omega) hb1 hb2 hbk
   have hbk':∀ x∈sumK l more k,-1000000000000000<=x.n∧x.n<=1000000000000000:=fun x hx=>by have:=hbk x hx;omega
   clear hp
   generalize sumK l more k=G at *
   have hk1:(k:Int)<n':=by omega
   have hk2:(0:Int)<=k:=by omega
   go_wp2_with fail
   refine (fG_ a2 n2 cap2 G p wr R2.sl (by omega) hbk' ⟨by omega,by omega⟩).mono ?_
   rintro e w3 ⟨⟨a3,n3,cap3,rfl,hn3,R3⟩,hB3⟩
   have hB4:=chain hB hB3
   go_wp2
   go_roundw
   case rel=>exact ⟨k+1,a3,n3,cap3,by omega,by go_num,rfl,by omega,by rw [hst.out];exact R3.mono hsz,by rw [hst.out];intro x hx;have:=hbn x hx;omega,hB4⟩
   case measure=>simp [intOf];omega
  ·obtain rfl:k=n':=by omega
   have hst:Hid (sumK l more k=sumC l more):=nb_ hlen'.out
   go_wp2
   go_returns
   exact ⟨⟨a2,n2,cap2,rfl,hn2,by rw [<-hst.out];exact R2⟩,hB⟩
theorem fH_ (a:Option Addr) (n cap:Nat) (l:List Ct) (a':Option Addr) (n' cap':Nat) (more:List Ct) (w:World) (h:CtsAt w a n l) (ha1:∀ ad,a=some ad->ad.spot=none) (ha2:a=none->cap=0) (h':CtsAt w a' n' more) (hn:n<=200) (hn':n'<=200) (hb:∀ x∈l,-1000<=x.n∧x.n<=1000) (hb':∀ x∈more,-1000<=x.n∧x.n<=1000) :
  Calls Tryz.prog 183 #[.slice a n cap,.slice a' n' cap'] w fun e w'=>(∃ a2 n2 cap2,e=.returned (.slice a2 n2 cap2)∧n2<=n+n'∧ResAt Ct.cs 4 134 w' w.heap.size a2 n2 cap2 (sumC l more))∧Below w.heap.size w w':=
 iW_ a n cap l a' n' cap' more w h ha1 ha2 h' (by omega) (by omega) (fun x hx=>by have:=hb x hx;omega) (fun x hx=>by have:=hb' x hx;omega)
def letB (c:UInt8):Bool:=decide (97<=(c.toNat:Int))&&decide ((c.toNat:Int)<=122)
def nameB (d:ByteArray):Bool:=decide (1<=d.size)&&decide (d.size<=8)&&d.data.toList.all letB
theorem ce_ (d:ByteArray) (w:World) (hd:d.size<=9223372036854775807) :
  Calls Tryz.prog 164 #[.string d] w fun e w'=>e=.returned (.bool (nameB d))∧w'=w:=by
 by_cases h1:1<=d.size∧d.size<=8
 ·have hfin:Hid (nameB d=(d.data.toList.drop 0).all letB):=by show _=_;simp [nameB,h1]
  obtain ⟨h1,h20⟩:=h1
  go_enter Tryz.func164,Tryz.ntmps164
  go_wp2_with fail
  go_loop [14] (fun ix=>∃ (k:Nat),k<=d.size∧ix=.int .i64 k∧Hid (nameB d=(d.data.toList.drop k).all letB)) (fun ix=>d.size-(intOf ix).toNat)
  case atStart=>exact ⟨0,Nat.zero_le _,rfl,hfin⟩
  case round=>
   obtain ⟨k,hk,rfl,hI⟩:=hrel
   by_cases hlt:k<d.size
   ·have hs:Hid (d.data.toList.drop k=d[k]::d.data.toList.drop (k+1)):=a5_ d k hlt
    cases hc:letB d[k]
    ·have hc':(d[k].toNat:Int)<97∨122<(d[k].toNat:Int):=by simp [letB] at hc;omega
     go_wp2
     all_goals go_returns
     all_goals go_light
     all_goals (refine ⟨ab_ ?_,rfl⟩;rw [hI.out,hs.out];simp [hc])
    ·have hc':97<=(d[k].toNat:Int)∧(d[k].toNat:Int)<=122:=by simp [letB] at hc;omega
     obtain ⟨hc1,hc2⟩:=hc'
     go_wp2
     go_round
     case rel=>exact ⟨k+1,by omega,by go_num,by show _=_;rw [hI.out,hs.out];simp [hc]⟩
     case measure=>simp [intOf];omega
   ·obtain rfl:k=d.size:=by omega
    go_wp2
    go_returns
    go_light
    refine ⟨ab_ ?_,rfl⟩
    rw [hI.out,List.drop_of_length_le (by simp)];rfl
 ·have hfin:Hid (nameB d=false):=by show _=_;simp [nameB];omega
  go_enter Tryz.func164,Tryz.ntmps164
  go_wp2
  all_goals go_returns
  all_goals go_light
  all_goals exact ⟨ab_ hfin.out.symm,rfl⟩
theorem bH_ (d:ByteArray) (w:World) (hd:d.size<=9223372036854775807) :
  Calls Tryz.prog 178 #[.string d] w fun e w'=>e=.returned (.bool (nameB d))∧w'=w:=by
 by_cases h1:1<=d.size∧d.size<=8
 ·have hfin:Hid (nameB d=(d.data.toList.drop 0).all letB):=by show _=_;simp [nameB,h1]
  obtain ⟨h1,h20⟩:=h1
  go_enter Tryz.func178,Tryz.ntmps178
  go_wp2_with fail
  go_loop [3] (fun ix=>∃ (k:Nat),k<=d.size∧ix=.int .i64 k∧Hid (nameB d=(d.data.toList.drop k).all letB)) (fun ix=>d.size-(intOf ix).toNat)
  case atStart=>exact ⟨0,Nat.zero_le _,rfl,hfin⟩
  case round=>
   obtain ⟨k,hk,rfl,hI⟩:=hrel
   by_cases hlt:k<d.size
   ·have hs:Hid (d.data.toList.drop k=d[k]::d.data.toList.drop (k+1)):=a5_ d k hlt
    cases hc:letB d[k]
    ·have hc':(d[k].toNat:Int)<97∨122<(d[k].toNat:Int):=by simp [letB] at hc;omega
     go_wp2
     all_goals go_returns
     all_goals go_light
     all_goals (refine ⟨ab_ ?_,rfl⟩;rw [hI.out,hs.out];simp [hc])
    ·have hc':97<=(d[k].toNat:Int)∧(d[k].toNat:Int)<=122:=by simp [letB] at hc;omega
     obtain ⟨hc1,hc2⟩:=hc'
     go_wp2
     go_round
     case rel=>exact ⟨k+1,by omega,by go_num,by show _=_;rw [hI.out,hs.out];simp [hc]⟩
     case measure=>simp [intOf];omega
   ·obtain rfl:k=d.size:=by omega
    go_wp2
    go_returns
    go_light
    refine ⟨ab_ ?_,rfl⟩
    rw [hI.out,List.drop_of_length_le (by simp)];rfl
 ·have hfin:Hid (nameB d=false):=by show _=_;simp [nameB];omega
  go_enter Tryz.func178,Tryz.ntmps178
  go_wp2
  all_goals go_returns
  all_goals go_light
  all_goals exact ⟨ab_ hfin.out.symm,rfl⟩
end Go.Proofs.YtigldeccfpkdmaaGreatDoor
