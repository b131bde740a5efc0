/- How the laws' arguments, as they are read, lie in memory: lists of parts and of extents. The parts, as the model has them, and the laws' own helpers for parts. The model's SpaceOk; the laws' sizes, copies and comparisons of lists of extents. The laws' sizes, copies and comparisons of lists of extents. Lengths; the laws' copies and comparisons of lists of parts. The laws' sizes, copies and comparisons of owners and counts. The laws' sizes, copies and comparisons of lists of counts. Volumes and items as plain data, and how they lie in memory. The laws' sizes of lists of items and volumes. -/
import Derived.Test.YtigldeccfpkdmaaGreatDoorProg
import Derived.Deep.Strs
import Derived.Deep.Slices
import Derived.SizedLaws
import Derived.Test.YtigldeccfpkdmaaGreatDoorK00
import Derived.WalkKit
import Derived.ProofKit
import Derived.OpenShut
import Derived.Handy
import Derived.Deep.Light
import Derived.Deep.RegionHeld3
import Derived.Deep.QuietTactic
import Derived.BigQuiet
import Derived.WalkSmall
import Derived.Test.YtigldeccfpkdmaaGreatDoorK01
import Derived.Test.YtigldeccfpkdmaaGreatDoorK04
import Derived.Test.YtigldeccfpkdmaaGreatDoorK05
import Derived.Laws.Rows
import Derived.Test.YtigldeccfpkdmaaGreatDoorK03
import Derived.Test.YtigldeccfpkdmaaGreatDoorK06
import Derived.Test.YtigldeccfpkdmaaGreatDoorK07
import Derived.Laws.Cover1
import Derived.Maps.AppendAt
import Derived.Test.YtigldeccfpkdmaaGreatDoorK08
import Derived.Deep.RegionLaw
import Derived.Laws.AppendOwnNone
import Derived.Laws.StructEq
import Derived.RangeFuncNested
import Derived.RangeFuncBound
import Derived.RangeFuncCalls
import Derived.RangeFuncLeaves
import Derived.RangeFuncBox
import Derived.Shelf.Abstract
import Derived.Shelf.RegionOpen
import Derived.OwnWalkIn
import Derived.TacticsInMore
import Derived.LoopNIn
import Derived.LoopIn
import Derived.RangeFuncFrom
import Derived.StillTailTactics
import Derived.Lib.AppendStr
import Derived.Lib.AppendZerosOnto
import Derived.Laws.BytesArg
import Derived.Test.YtigldeccfpkdmaaGreatDoorK14
namespace Go.Proofs.YtigldeccfpkdmaaGreatDoor
open Go.ChangeShapes Go.WideShapes Go.ChangeAt Go.RowKit Go.Deep
set_option maxHeartbeats 20000000
set_option maxRecDepth 100000
theorem cells266:Tryz.prog.cellsOf 321=3:=by kernel_rfl
theorem n9_ {H:Type} {enc:TypeId×Value->H} {w:World} {spare:Nat->Bool} {held:Bool} {a:Option Addr} {n cap:Nat} {d:DataW H} {p:List MemPlace}
  (h:DataW.Trod enc Tryz.prog w 0 spare held 266 (.slice a n cap) d p):n<=maxLen∧∃ l:List Pt,PtsAt w a n l:=by
 obtain ⟨fuel,hf⟩:=h
 rcases open_slice Tryz.underlying266 hf with ⟨hcs,_⟩ | ⟨ad,len,cap',m,n',D,Pl,hcs,_,hl,hm,hmm,_,hel⟩
 ·simp [Value.cells] at hcs
  obtain ⟨rfl,rfl,rfl⟩:=hcs
  exact ⟨Nat.zero_le _,[],rfl,fun i x hx=>by simp at hx⟩
 ·simp [Value.cells] at hcs
  obtain ⟨rfl,rfl,rfl⟩:=hcs
  have hle:n<=m:=by rw [hmm];split<;>omega
  refine ⟨Nat.le_trans hl hm,?_⟩
  have hone:∀ i,i<n->∃ q:Pt,∀ j v,q.cs[j]?=some v->w.cell? (ad.add (i*3+j))=some v:=by
   intro i hi
   obtain ⟨cs',h1,h2⟩:=hel i (by omega)
   rw [cells266] at h1
   obtain ⟨_,hlen,hcell⟩:=World.cells?_some h1
   obtain ⟨y0,y1,y2,_,_,_,t0,t1,t2⟩:=trod_struct3 Tryz.underlying321 h2
   obtain ⟨z0,e0,_,_⟩:=DataW.trod_int Tryz.underlying2 t0
   obtain ⟨z1,e1,_,_⟩:=DataW.trod_int Tryz.underlying2 t1
   obtain ⟨z2,e2,_,_⟩:=DataW.trod_int Tryz.underlying2 t2
   match cs',hlen with
   |[x0,x1,x2],_=>
    simp [c2] at e0 e1 e2
    subst e0 e1 e2
    refine ⟨⟨z0,z1,z2⟩,fun j v hv=>?_⟩
    have hj:j<3:=by have:=(List.getElem?_eq_some_iff.1 hv).1;simpa [Pt.cs] using this
    have:=hcell j hj
    rw [Addr.add_add] at this
    rw [this];exact hv
  have hinh:Inhabited Pt:=⟨⟨0,0,0⟩⟩
  obtain ⟨L,hL⟩:=choose_lt (α:=Pt) (p:=fun i q=>∀ j v,q.cs[j]?=some v->w.cell? (ad.add (i*3+j))=some v) hone
  refine ⟨(List.range n).map L,by simp,fun i x hx=>?_⟩
  have hi:i<n:=by have:=(List.getElem?_eq_some_iff.1 hx).1;simpa using this
  simp [hi] at hx
  subst hx
  have h00:=hL 0 (by omega) 0 _ rfl
  obtain ⟨b,o,rfl⟩:=spotless h00 rfl
  exact ⟨b,o,rfl,fun j v hv=>by have:=hL i hi j v hv;rw [Addr.add_lit] at this;rw [Nat.add_assoc];exact this⟩
end Go.Proofs.YtigldeccfpkdmaaGreatDoor
namespace Go.Proofs.YtigldeccfpkdmaaGreatDoor
open Go.RowKit
set_option maxHeartbeats 20000000
set_option maxRecDepth 100000
theorem kc_ (p:Pt) (w:World) :
  Calls Tryz.prog 273 #[.agg #[.int .i64 p.a,.int .i64 p.f,.int .i64 p.n]] w fun e w'=>e=.returned (.agg #[.int .i64 p.a,.int .i64 p.f,.int .i64 p.n])∧Below w.heap.size w w':=by
 obtain ⟨a,f,n⟩:=p
 go_enter Tryz.func273,Tryz.ntmps273
 go_wp2
 go_returns
 go_light
 refine ⟨rfl,by go_grown⟩
end Go.Proofs.YtigldeccfpkdmaaGreatDoor
namespace Go.Proofs.YtigldeccfpkdmaaGreatDoor
open Go.RowKit Go.BigFrame
set_option maxHeartbeats 20000000
set_option maxRecDepth 100000
theorem gS_ (p:Ex) (w:World) :
  Calls Tryz.prog 124 #[.agg #[.int .i64 p.a,.string p.d]] w fun e w'=>e=.returned (.agg #[.int .i64 p.a,.string p.d])∧Below w.heap.size w w':=by
 obtain ⟨a,d⟩:=p
 go_enter Tryz.func124,Tryz.ntmps124
 go_wp2
 go_returns
 go_light
 refine ⟨rfl,by go_grown⟩
/-- What is left of a budget behind an extent, -1 where it is used up. -/
def szE (left:Int) (p:Ex):Int:=if left-p.d.size<0 then -1 else left-p.d.size
theorem dH_ (p:Ex) (left:Int) (w:World) (h0:0<=left) (h1:left<=1048576) (hd:p.d.size<=9223372036854775807) :
  Calls Tryz.prog 112 #[.agg #[.int .i64 p.a,.string p.d],.int .i64 left] w fun e w'=>e=.returned (.int .i64 (szE left p))∧Below w.heap.size w w':=by
 obtain ⟨a,d⟩:=p
 simp only at hd
 by_cases h:left-(d.size:Int)<0
 ·have hf:Hid (szE left ⟨a,d⟩=-1):=by show _=_;simp [szE];omega
  go_enter Tryz.func112,Tryz.ntmps112
  go_wp2
  go_returns
  go_light
  exact ⟨aA_ hf.out.symm,by go_grown⟩
 ·have hf:Hid (szE left ⟨a,d⟩=left-d.size):=by show _=_;simp [szE];omega
  go_enter Tryz.func112,Tryz.ntmps112
  go_wp2
  go_returns
  go_light
  exact ⟨aA_ hf.out.symm,by go_grown⟩
theorem gq_ (a:Option Addr) (n cap:Nat) (l:List Ex) (L:Int) (w:World) (h:ExsAt w a n l) (hstr:Strs l) (hn:n<=9223372036854775807) (hL0:0<=L) (hL:L<=1048576) :
  Calls Tryz.prog 51 #[.slice a n cap,.int .i64 L] w fun e w'=>(∃ r:Int,e=.returned (.int .i64 r)∧(r=-1∨(0<=r∧r<=1048576∧Small n l)))∧Below w.heap.size w w':=by
 have hlen:Hid (l.length=n):=h.len
 by_cases hb:L-(n:Int)<0
 ·go_enter Tryz.func51,Tryz.ntmps51
  go_wp2
  go_returns
  go_light
  exact ⟨⟨_,rfl,.inl rfl⟩,Below.refl _ _⟩
 ·go_enter Tryz.func51,Tryz.ntmps51
  go_wp2_with fail
  go_loopw [1,5] (fun lf ix wr=>∃ (k:Nat) (r:Int),k<=n∧ix=.int .i64 k∧lf=.int .i64 r∧0<=r∧r<=1048576∧Hid (∀ i e,i<k->l[i]?=some e->e.d.size<=1048576)∧Below w.heap.size w wr) (fun _ ix _=>n-(intOf ix).toNat)
  case atStart=>exact ⟨0,_,Nat.zero_le _,rfl,rfl,by omega,by omega,fun i e hi=>by omega,Below.refl _ _⟩
  case round=>
   obtain ⟨k,r,hk,rfl,rfl,hr0,hr1,hI,hB⟩:=hrel
   by_cases hlt:k<n
   ·obtain ⟨b,o,p,rfl,hp,c0,c1⟩:=bp_ (h.below hB) hlt
    have hp':Hid (l[k]?=some p):=hp
    have hsz:=hstr.at hp
    clear hp
    by_cases hs:r-(p.d.size:Int)<0
    ·have hf:Hid (szE r p=-1):=by show _=_;simp [szE];omega
     go_wp2_with fail
     refine (dH_ p r _ hr0 hr1 hsz).mono ?_
     rintro e w1 ⟨rfl,hB1⟩
     rw [hf.out]
     go_wp2
     go_returns
     go_light
     exact ⟨⟨_,rfl,.inl rfl⟩,chain hB hB1⟩
    ·have hf:Hid (szE r p=r-p.d.size):=by show _=_;simp [szE];omega
     go_wp2_with fail
     refine (dH_ p r _ hr0 hr1 hsz).mono ?_
     rintro e w1 ⟨rfl,hB1⟩
     rw [hf.out]
     go_wp2
     go_roundw
     case rel=>
      refine ⟨k+1,r-p.d.size,by omega,by go_num,rfl,by omega,by omega,?_,chain hB hB1⟩
      intro i e hi he
      by_cases hik:i=k
      ·subst hik
       rw [hp'.out] at he
       obtain rfl:=Option.some.inj he
       omega
      ·exact hI.out i e (by omega) he
     case measure=>simp [intOf];omega
   ·obtain rfl:k=n:=by omega
    go_wp2
    go_returns
    go_light
    refine ⟨⟨_,rfl,.inr ⟨hr0,hr1,by omega,?_⟩⟩,hB⟩
    intro e he
    obtain ⟨i,hi⟩:=List.mem_iff_getElem?.1 he
    refine hI.out i e ?_ hi
    have:=(List.getElem?_eq_some_iff.1 hi).1
    rw [hlen.out] at this;exact this
theorem gr_ (a:Option Addr) (n cap:Nat) (l:List Ex) (w:World) (h:ExsAt w a n l) (hn:n<=4194304) :
  Calls Tryz.prog 57 #[.slice a n cap] w fun e w'=>e=.returned (.slice (some ⟨w.heap.size,0,none⟩) n n)∧OwnAt Ex.cs 2 136 w' w.heap.size n l∧Below w.heap.size w w':=by
 have hlen':Hid (l.length=n):=h.len
 have hinfo:(Tryz.prog.info? 136).map (fun i=>(i.zero,i.size,i.bytes))=some (some (.agg #[.int .i64 0,.string .empty]),2,24):=by kernel_rfl
 obtain ⟨i0,hi,hz0,hz1,hz2⟩:=info_parts hinfo
 have hmk:∀ u:World,(Instr.makeSlice 22 (.int .i64 (n:Int)) (.int .i64 (n:Int))).run Tryz.prog u =
   .ok (.slice (some ⟨u.heap.size,0,none⟩) n n) (u.alloc (.cells (madeCells #[.int .i64 0,.string .empty] (n*2)) 136)):=fun u=>by
  have hm:=run_make (P:=Tryz.prog) u 22 136 i0 (.agg #[.int .i64 0,.string .empty]) Tryz.underlying22 hi hz0 .i64 .i64 (n:Int) (n:Int) (by omega) (Int.le_refl _) (by rw [hz2];omega) (by omega)
  simpa [hz1,Value.cells] using hm
 clear hinfo hi hz0 hz1 hz2
 go_enter Tryz.func57,Tryz.ntmps57
 go_wp2_with fail
 go_loopw [4] (fun ix wr=>∃ (k:Nat) (c:Array Value),k<=n∧ix=.int .i64 k∧Blk wr w.heap.size c 136∧Hid (c.size=n*2)∧Hid (∀ i p,i<k->l[i]?=some p->c[i*2]?=some (.int .i64 p.a)∧c[i*2+1]?=some (.string p.d))∧Below w.heap.size w wr) (fun ix _=>n-(intOf ix).toNat)
 case atStart=>exact ⟨0,_,Nat.zero_le _,rfl,Blk.new _ _ _,size_madeCells _ _,fun i p hi=>by omega,(Below.refl _ _).alloc (Nat.le_refl _) _⟩
 case round=>
  obtain ⟨k,c,hk,rfl,hblk,hcs,hcc,hB⟩:=hrel
  by_cases hlt:k<n
  ·obtain ⟨b,o,p,rfl,hp,c0,c1⟩:=bp_ (h.below hB) hlt
   have hp':Hid (l[k]?=some p):=hp
   clear hp hmk
   go_wp2_with fail
   refine (gS_ p _).mono ?_
   rintro e w1 ⟨rfl,hB1⟩
   have hb1:=hblk.below hB1
   have f0:=hb1.frozen (k*2)
   have f1:=hb1.frozen (k*2+1)
   have hsz:=hB.size
   obtain ⟨v0,y0⟩:=hb1.has (i:=k*2) (by rw [hcs.out];omega)
   obtain ⟨v1,y1⟩:=hb1.has (i:=k*2+1) (by rw [hcs.out];omega)
   go_wp2
   go_roundw
   case rel=>
    refine ⟨k+1,_,by omega,by go_num,(hb1.set _ _).set _ _,by show _=_;simp [hcs.out],?_,?_⟩
    ·intro i q hi hq
     have hcs':=hcs.out
     by_cases hik:i=k
     ·subst hik
      obtain rfl:p=q:=by rw [hp'.out] at hq;exact Option.some.inj hq
      refine ⟨?_,?_⟩
      all_goals (simp [Array.getElem?_setIfInBounds];omega)
     ·obtain ⟨r0,r1⟩:=hcc.out i q (by omega) hq
      refine ⟨?_,?_⟩
      all_goals (rw [Array.getElem?_setIfInBounds_ne (by omega),Array.getElem?_setIfInBounds_ne (by omega)];assumption)
    ·exact ((chain hB hB1).setCell (by simp) _).setCell (by simp) _
   case measure=>simp [intOf];omega
  ·obtain rfl:k=n:=by omega
   go_wp2
   go_returns
   go_light
   refine ⟨rfl,⟨hlen'.out,c,hblk,Nat.le_of_eq hcs.out.symm,?_⟩,hB⟩
   intro i x hx j v hv
   have hi:i<k:=by have:=(List.getElem?_eq_some_iff.1 hx).1;rw [hlen'.out] at this;exact this
   obtain ⟨r0,r1⟩:=hcc.out i x hi hx
   match j,hv with
   |0,hv=>obtain rfl:=Option.some.inj hv;exact r0
   |1,hv=>obtain rfl:=Option.some.inj hv;exact r1
   |j+2,hv=>simp [Ex.cs] at hv
theorem is_ (a:Option Addr) (n cap:Nat) (l:List Pt) (w:World) (h:PtsAt w a n l) (hn:n<=4194304) :
  Calls Tryz.prog 243 #[.slice a n cap] w fun e w'=>e=.returned (.slice (some ⟨w.heap.size,0,none⟩) n n)∧OwnAt Pt.cs 3 141 w' w.heap.size n l∧Below w.heap.size w w':=by
 have hlen':Hid (l.length=n):=h.len
 have hinfo:(Tryz.prog.info? 141).map (fun i=>(i.zero,i.size,i.bytes))=some (some (.agg #[.int .i64 0,.int .i64 0,.int .i64 0]),3,24):=by kernel_rfl
 obtain ⟨i0,hi,hz0,hz1,hz2⟩:=info_parts hinfo
 have hmk:∀ u:World,(Instr.makeSlice 137 (.int .i64 (n:Int)) (.int .i64 (n:Int))).run Tryz.prog u =
   .ok (.slice (some ⟨u.heap.size,0,none⟩) n n) (u.alloc (.cells (madeCells #[.int .i64 0,.int .i64 0,.int .i64 0] (n*3)) 141)):=fun u=>by
  have hm:=run_make (P:=Tryz.prog) u 137 141 i0 (.agg #[.int .i64 0,.int .i64 0,.int .i64 0]) Tryz.underlying137 hi hz0 .i64 .i64 (n:Int) (n:Int) (by omega) (Int.le_refl _) (by rw [hz2];omega) (by omega)
  simpa [hz1,Value.cells] using hm
 clear hinfo hi hz0 hz1 hz2
 go_enter Tryz.func243,Tryz.ntmps243
 go_wp2_with fail
 go_loopw [4] (fun ix wr=>∃ (k:Nat) (c:Array Value),k<=n∧ix=.int .i64 k∧Blk wr w.heap.size c 141∧Hid (c.size=n*3)∧Hid (∀ i p,i<k->l[i]?=some p->c[i*3]?=some (.int .i64 p.a)∧c[i*3+1]?=some (.int .i64 p.f)∧c[i*3+2]?=some (.int .i64 p.n))∧Below w.heap.size w wr) (fun ix _=>n-(intOf ix).toNat)
 case atStart=>exact ⟨0,_,Nat.zero_le _,rfl,Blk.new _ _ _,size_madeCells _ _,fun i p hi=>by omega,(Below.refl _ _).alloc (Nat.le_refl _) _⟩
 case round=>
  obtain ⟨k,c,hk,rfl,hblk,hcs,hcc,hB⟩:=hrel
  by_cases hlt:k<n
  ·obtain ⟨b,o,p,rfl,hp,c0,c1,c2⟩:=bc_ (h.below hB) hlt
   have hp':Hid (l[k]?=some p):=hp
   clear hp hmk
   go_wp2_with fail
   refine (kc_ p _).mono ?_
   rintro e w1 ⟨rfl,hB1⟩
   have hb1:=hblk.below hB1
   have f0:=hb1.frozen (k*3)
   have f1:=hb1.frozen (k*3+1)
   have f2:=hb1.frozen (k*3+2)
   have hsz:=hB.size
   obtain ⟨v0,y0⟩:=hb1.has (i:=k*3) (by rw [hcs.out];omega)
   obtain ⟨v1,y1⟩:=hb1.has (i:=k*3+1) (by rw [hcs.out];omega)
   obtain ⟨v2,y2⟩:=hb1.has (i:=k*3+2) (by rw [hcs.out];omega)
   go_wp2
   go_roundw
   case rel=>
    refine ⟨k+1,_,by omega,by go_num,((hb1.set _ _).set _ _).set _ _,by show _=_;simp [hcs.out],?_,?_⟩
    ·intro i q hi hq
     have hcs':=hcs.out
     by_cases hik:i=k
     ·subst hik
      obtain rfl:p=q:=by rw [hp'.out] at hq;exact Option.some.inj hq
      refine ⟨?_,?_,?_⟩
      all_goals (simp [Array.getElem?_setIfInBounds];omega)
     ·obtain ⟨r0,r1,r2⟩:=hcc.out i q (by omega) hq
      refine ⟨?_,?_,?_⟩
      all_goals (rw [Array.getElem?_setIfInBounds_ne (by omega),Array.getElem?_setIfInBounds_ne (by omega),Array.getElem?_setIfInBounds_ne (by omega)];assumption)
    ·exact (((chain hB hB1).setCell (by simp) _).setCell (by simp) _).setCell (by simp) _
   case measure=>simp [intOf];omega
  ·obtain rfl:k=n:=by omega
   go_wp2
   go_returns
   go_light
   refine ⟨rfl,⟨hlen'.out,c,hblk,Nat.le_of_eq hcs.out.symm,?_⟩,hB⟩
   intro i x hx j v hv
   have hi:i<k:=by have:=(List.getElem?_eq_some_iff.1 hx).1;rw [hlen'.out] at this;exact this
   obtain ⟨r0,r1,r2⟩:=hcc.out i x hi hx
   match j,hv with
   |0,hv=>obtain rfl:=Option.some.inj hv;exact r0
   |1,hv=>obtain rfl:=Option.some.inj hv;exact r1
   |2,hv=>obtain rfl:=Option.some.inj hv;exact r2
   |j+3,hv=>simp [Pt.cs] at hv
theorem it_ (p:Ow) (w:World) :
  Calls Tryz.prog 186 #[.agg #[.int .i64 p.a,.int .i64 p.v,.string p.f]] w fun e w'=>e=.returned (.agg #[.int .i64 p.a,.int .i64 p.v,.string p.f])∧Below w.heap.size w w':=by
 obtain ⟨a,v,f⟩:=p
 go_enter Tryz.func186,Tryz.ntmps186
 go_wp2
 go_returns
 go_light
 refine ⟨rfl,by go_grown⟩
theorem box443 {w w1:World} {x y z u:Value} {c d:Array Value} {t t1 t2:TypeId} (hb:Below (((w.alloc (.cells #[x,y,z,u] t)).alloc (.cells c t1)).alloc (.cells d t2)).heap.size (((w.alloc (.cells #[x,y,z,u] t)).alloc (.cells c t1)).alloc (.cells d t2)) w1) :
  w1.cell? ⟨w.heap.size,3,none⟩=some u∧Blk w1 (w.heap.size+1) c t1∧Blk w1 (w.heap.size+1+1) d t2∧Below w.heap.size w w1:=by
 refine ⟨bcell hb (acell _ (acell _ (World.cell?_alloc_new _ _ _ 3))),?_,?_,chain (by go_grown) hb⟩
 ·have:=((Blk.new (w.alloc (.cells #[x,y,z,u] t)) c t1).alloc (.cells d t2)).below hb
  simpa using this
 ·have:=(Blk.new ((w.alloc (.cells #[x,y,z,u] t)).alloc (.cells c t1)) d t2).below hb
  simpa using this
theorem gs_ (p:Ct) (w:World) :
  Calls Tryz.prog 126 #[.agg #[.int .i64 p.o.a,.int .i64 p.o.v,.string p.o.f,.int .i64 p.n]] w fun e w'=>e=.returned (.agg #[.int .i64 p.o.a,.int .i64 p.o.v,.string p.o.f,.int .i64 p.n])∧Below w.heap.size w w':=by
 obtain ⟨⟨a,v,f⟩,n⟩:=p
 go_enter Tryz.func126,Tryz.ntmps126
 go_wp2_with fail
 refine (it_ ⟨a,v,f⟩ _).mono ?_
 rintro e w1 ⟨rfl,hB1⟩
 obtain ⟨c3,hb2,hb1,hB2⟩:=box443 hB1
 clear hB1
 have g0:=hb2.frozen 0
 have g1:=hb2.frozen 1
 have g2:=hb2.frozen 2
 have g3:=hb2.frozen 3
 have z0:w1.cell? ⟨w.heap.size+1,0,none⟩=some (.int .i64 0):=hb2.cell 0
 have z1:w1.cell? ⟨w.heap.size+1,1,none⟩=some (.int .i64 0):=hb2.cell 1
 have z2:w1.cell? ⟨w.heap.size+1,2,none⟩=some (.string ⟨#[]⟩):=hb2.cell 2
 have z3:w1.cell? ⟨w.heap.size+1,3,none⟩=some (.int .i64 0):=hb2.cell 3
 have f0:=hb1.frozen 0
 have f1:=hb1.frozen 1
 have f2:=hb1.frozen 2
 have f3:=hb1.frozen 3
 have y0:w1.cell? ⟨w.heap.size+1+1,0,none⟩=some (.int .i64 0):=hb1.cell 0
 have y1:w1.cell? ⟨w.heap.size+1+1,1,none⟩=some (.int .i64 0):=hb1.cell 1
 have y2:w1.cell? ⟨w.heap.size+1+1,2,none⟩=some (.string ⟨#[]⟩):=hb1.cell 2
 have y3:w1.cell? ⟨w.heap.size+1+1,3,none⟩=some (.int .i64 0):=hb1.cell 3
 have hW4:Blk ((((w1.setCell ⟨w.heap.size+1+1,0,none⟩ (.int .i64 a)).setCell ⟨w.heap.size+1+1,1,none⟩ (.int .i64 v)).setCell ⟨w.heap.size+1+1,2,none⟩ (.string f)).setCell ⟨w.heap.size+1+1,3,none⟩ (.int .i64 n)) (w.heap.size+1) #[.int .i64 0,.int .i64 0,.string ⟨#[]⟩,.int .i64 0] 134:=
  (((hb2.other ⟨w.heap.size+1+1,0,none⟩ (.int .i64 a) (by simp)).other ⟨w.heap.size+1+1,1,none⟩ (.int .i64 v) (by simp)).other ⟨w.heap.size+1+1,2,none⟩ (.string f) (by simp)).other ⟨w.heap.size+1+1,3,none⟩ (.int .i64 n) (by simp)
 have hBW:Below w.heap.size w ((((((((w1.setCell ⟨w.heap.size+1+1,0,none⟩ (.int .i64 a)).setCell ⟨w.heap.size+1+1,1,none⟩ (.int .i64 v)).setCell ⟨w.heap.size+1+1,2,none⟩ (.string f)).setCell ⟨w.heap.size+1+1,3,none⟩ (.int .i64 n)).setCell ⟨w.heap.size+1,0,none⟩ (.int .i64 a)).setCell ⟨w.heap.size+1,1,none⟩ (.int .i64 v)).setCell ⟨w.heap.size+1,2,none⟩ (.string f)).setCell ⟨w.heap.size+1,3,none⟩ (.int .i64 n)):=by
  refine (((((((hB2.setCell ?_ _).setCell ?_ _).setCell ?_ _).setCell ?_ _).setCell ?_ _).setCell ?_ _).setCell ?_ _).setCell ?_ _
  all_goals (simp;try omega)
 have hW:Blk ((((((((w1.setCell ⟨w.heap.size+1+1,0,none⟩ (.int .i64 a)).setCell ⟨w.heap.size+1+1,1,none⟩ (.int .i64 v)).setCell ⟨w.heap.size+1+1,2,none⟩ (.string f)).setCell ⟨w.heap.size+1+1,3,none⟩ (.int .i64 n)).setCell ⟨w.heap.size+1,0,none⟩ (.int .i64 a)).setCell ⟨w.heap.size+1,1,none⟩ (.int .i64 v)).setCell ⟨w.heap.size+1,2,none⟩ (.string f)).setCell ⟨w.heap.size+1,3,none⟩ (.int .i64 n)) (w.heap.size+1) #[.int .i64 a,.int .i64 v,.string f,.int .i64 n] 134:=by
  have:=(((hW4.set 0 (.int .i64 a)).set 1 (.int .i64 v)).set 2 (.string f)).set 3 (.int .i64 n)
  simpa using this
 clear hb1 hb2 hW4
 go_wp2
 generalize ((((((((w1.setCell ⟨w.heap.size+1+1,0,none⟩ (.int .i64 a)).setCell ⟨w.heap.size+1+1,1,none⟩ (.int .i64 v)).setCell ⟨w.heap.size+1+1,2,none⟩ (.string f)).setCell ⟨w.heap.size+1+1,3,none⟩ (.int .i64 n)).setCell ⟨w.heap.size+1,0,none⟩ (.int .i64 a)).setCell ⟨w.heap.size+1,1,none⟩ (.int .i64 v)).setCell ⟨w.heap.size+1,2,none⟩ (.string f)).setCell ⟨w.heap.size+1,3,none⟩ (.int .i64 n))=W8 at *
 refine bodyPost_ret (results_cell_row rfl _ W8 (w.heap.size+1) _ _ _ _ rfl hW Tryz.underlying134 rfl (by kernel_rfl)) rfl ?_
 exact ⟨rfl,hBW⟩
theorem el_ (p:Ow) (left:Int) (w:World) (h0:0<=left) (h1:left<=1048576) (hd:p.f.size<=9223372036854775807) :
  Calls Tryz.prog 176 #[.agg #[.int .i64 p.a,.int .i64 p.v,.string p.f],.int .i64 left] w fun e w'=>e=.returned (.int .i64 (if left-p.f.size<0 then -1 else left-p.f.size))∧Below w.heap.size w w':=by
 obtain ⟨a,v,d⟩:=p
 simp only at hd ⊢
 by_cases h:left-(d.size:Int)<0
 ·rw [if_pos h]
  go_enter Tryz.func176,Tryz.ntmps176
  go_wp2
  go_returns
  go_light
  exact ⟨rfl,by go_grown⟩
 ·rw [if_neg h]
  go_enter Tryz.func176,Tryz.ntmps176
  go_wp2
  go_returns
  go_light
  exact ⟨rfl,by go_grown⟩
def szC (left:Int) (p:Ct):Int:=if left-p.o.f.size<0 then -1 else left-p.o.f.size
theorem dj_ (p:Ct) (left:Int) (w:World) (h0:0<=left) (h1:left<=1048576) (hd:p.o.f.size<=9223372036854775807) :
  Calls Tryz.prog 114 #[.agg #[.int .i64 p.o.a,.int .i64 p.o.v,.string p.o.f,.int .i64 p.n],.int .i64 left] w fun e w'=>e=.returned (.int .i64 (szC left p))∧Below w.heap.size w w':=by
 by_cases h:left-(p.o.f.size:Int)<0
 ·have hf:Hid (szC left p=-1):=by show _=_;simp [szC];omega
  generalize szC left p=R at *
  obtain ⟨⟨a,v,d⟩,n⟩:=p
  simp only at *
  go_enter Tryz.func114,Tryz.ntmps114
  go_wp2_with fail
  refine (el_ ⟨a,v,d⟩ left _ h0 h1 hd).mono ?_
  rintro e w1 ⟨rfl,hB1⟩
  have hB2:Below w.heap.size w w1:=chain (by go_grown) hB1
  clear hB1
  simp only [if_pos h]
  go_wp2
  go_returns
  go_light
  exact ⟨aA_ hf.out.symm,hB2⟩
 ·have hf:Hid (szC left p=left-p.o.f.size):=by show _=_;simp [szC];omega
  generalize szC left p=R at *
  obtain ⟨⟨a,v,d⟩,n⟩:=p
  simp only at *
  go_enter Tryz.func114,Tryz.ntmps114
  go_wp2_with fail
  refine (el_ ⟨a,v,d⟩ left _ h0 h1 hd).mono ?_
  rintro e w1 ⟨rfl,hB1⟩
  have hB2:Below w.heap.size w w1:=chain (by go_grown) hB1
  clear hB1
  simp only [if_neg (Int.not_lt.2 h)]
  go_wp2
  go_returns
  go_light
  exact ⟨aA_ hf.out.symm,hB2⟩
theorem cW_ (a:Option Addr) (n cap:Nat) (l:List Ct) (L:Int) (w:World) (h:CtsAt w a n l) (hstr:StrC l) (hn:n<=9223372036854775807) (hL0:0<=L) (hL:L<=1048576) :
  Calls Tryz.prog 53 #[.slice a n cap,.int .i64 L] w fun e w'=>(∃ r:Int,e=.returned (.int .i64 r)∧(r=-1∨(0<=r∧r<=1048576∧SmallC n l)))∧Below w.heap.size w w':=by
 have hlen:Hid (l.length=n):=h.len
 by_cases hb:L-(n:Int)<0
 ·go_enter Tryz.func53,Tryz.ntmps53
  go_wp2
  go_returns
  go_light
  exact ⟨⟨_,rfl,.inl rfl⟩,Below.refl _ _⟩
 ·go_enter Tryz.func53,Tryz.ntmps53
  go_wp2_with fail
  go_loopw [1,5] (fun lf ix wr=>∃ (k:Nat) (r:Int),k<=n∧ix=.int .i64 k∧lf=.int .i64 r∧0<=r∧r<=1048576∧Hid (∀ i e,i<k->l[i]?=some e->e.o.f.size<=1048576)∧Below w.heap.size w wr) (fun _ ix _=>n-(intOf ix).toNat)
  case atStart=>exact ⟨0,_,Nat.zero_le _,rfl,rfl,by omega,by omega,fun i e hi=>by omega,Below.refl _ _⟩
  case round=>
   obtain ⟨k,r,hk,rfl,rfl,hr0,hr1,hI,hB⟩:=hrel
   by_cases hlt:k<n
   ·obtain ⟨b,o,p,rfl,hp,c0,c1,c2,c3⟩:=az_ (h.below hB) hlt
    have hp':Hid (l[k]?=some p):=hp
    have hsz:=hstr.at hp
    clear hp
    by_cases hs:r-(p.o.f.size:Int)<0
    ·have hf:Hid (szC r p=-1):=by show _=_;simp [szC];omega
     go_wp2_with fail
     refine (dj_ p r _ hr0 hr1 hsz).mono ?_
     rintro e w1 ⟨rfl,hB1⟩
     rw [hf.out]
     go_wp2
     go_returns
     go_light
     exact ⟨⟨_,rfl,.inl rfl⟩,chain hB hB1⟩
    ·have hf:Hid (szC r p=r-p.o.f.size):=by show _=_;simp [szC];omega
     go_wp2_with fail
     refine (dj_ p r _ hr0 hr1 hsz).mono ?_
     rintro e w1 ⟨rfl,hB1⟩
     rw [hf.out]
     go_wp2
     go_roundw
     case rel=>
      refine ⟨k+1,r-p.o.f.size,by omega,by go_num,rfl,by omega,by omega,?_,chain hB hB1⟩
      intro i e hi he
      by_cases hik:i=k
      ·subst hik
       rw [hp'.out] at he
       obtain rfl:=Option.some.inj he
       omega
      ·exact hI.out i e (by omega) he
     case measure=>simp [intOf];omega
   ·obtain rfl:k=n:=by omega
    go_wp2
    go_returns
    go_light
    refine ⟨⟨_,rfl,.inr ⟨hr0,hr1,by omega,?_⟩⟩,hB⟩
    intro e he
    obtain ⟨i,hi⟩:=List.mem_iff_getElem?.1 he
    refine hI.out i e ?_ hi
    have:=(List.getElem?_eq_some_iff.1 hi).1
    rw [hlen.out] at this;exact this
end Go.Proofs.YtigldeccfpkdmaaGreatDoor
namespace Go.Proofs.YtigldeccfpkdmaaGreatDoor
open Go.RowKit
set_option maxHeartbeats 20000000
set_option maxRecDepth 100000
theorem eO_ {B:Nat} (b n:Nat) (h:n<=9223372036854775807):Hd B (some ⟨b,0,none⟩) n n:=⟨Nat.le_refl _,h,fun _=>⟨(fun e=>by cases e),fun ad e=>by cases e;rfl⟩⟩
theorem dy_ {w:World} {a:Option Addr}:Sf 0 w a:=fun h=>absurd h (by omega)
end Go.Proofs.YtigldeccfpkdmaaGreatDoor
namespace Go.Proofs.YtigldeccfpkdmaaGreatDoor
open Go.RowKit Go.BigFrame
set_option maxHeartbeats 20000000
set_option maxRecDepth 100000
def BigI (l:List It):Prop:=∀ x∈l,x.nm.size<=9223372036854775807∧x.ps.length<=9223372036854775807
def BigV (l:List Vo):Prop:=∀ v∈l,v.nm.size<=9223372036854775807∧v.its.length<=9223372036854775807∧BigI v.its
theorem iu_ (a:Option Addr) (n cap:Nat) (L:Int) (w:World) (hn:n<=9223372036854775807) (h0:0<=L) (h1:L<=1048576) :
  Calls Tryz.prog 242 #[.slice a n cap,.int .i64 L] w fun e w'=>(∃ r:Int,e=.returned (.int .i64 r)∧(r=-1∨(0<=r∧r<=1048576∧n<=1048576)))∧w'=w:=by
 by_cases h:L-(n:Int)<0
 ·go_enter Tryz.func242,Tryz.ntmps242
  go_wp2
  go_returns
  exact ⟨⟨-1,rfl,.inl rfl⟩,rfl⟩
 ·go_enter Tryz.func242,Tryz.ntmps242
  go_wp2
  go_returns
  exact ⟨⟨L-n,rfl,.inr ⟨by omega,by omega,by omega⟩⟩,rfl⟩
theorem kd_ (nm:ByteArray) (pa:Option Addr) (pn pc:Nat) (L:Int) (w:World) (hs:nm.size<=9223372036854775807) (hn:pn<=9223372036854775807) (h0:0<=L) (h1:L<=1048576) :
  Calls Tryz.prog 210 #[.agg #[.string nm,.slice pa pn pc],.int .i64 L] w fun e w'=>(∃ r:Int,e=.returned (.int .i64 r)∧(r=-1∨(0<=r∧r<=1048576∧nm.size<=1048576∧pn<=1048576)))∧Below w.heap.size w w':=by
 by_cases h:L-(nm.size:Int)<0
 ·go_enter Tryz.func210,Tryz.ntmps210
  go_wp2
  go_returns
  exact ⟨⟨-1,rfl,.inl rfl⟩,by go_grown⟩
 ·go_enter Tryz.func210,Tryz.ntmps210
  go_wp2_with fail
  refine (iu_ pa pn pc (L-nm.size) _ hn (by omega) (by omega)).mono ?_
  rintro e w1 ⟨⟨r,rfl,hr⟩,rfl⟩
  rcases hr with rfl | ⟨r0,r1,r2⟩
  ·go_wp2
   go_returns
   exact ⟨⟨-1,rfl,.inl rfl⟩,by go_grown⟩
  ·go_wp2
   go_returns
   exact ⟨⟨r,rfl,.inr ⟨r0,r1,by omega,r2⟩⟩,by go_grown⟩
theorem iv_ (B:Nat) (a:Option Addr) (n cap:Nat) (l:List It) (L:Int) (w:World) (h:ItsAt B w a n l) (hbig:BigI l) (hn:n<=9223372036854775807) (hL0:0<=L) (hL:L<=1048576) :
  Calls Tryz.prog 175 #[.slice a n cap,.int .i64 L] w fun e w'=>(∃ r:Int,e=.returned (.int .i64 r)∧(r=-1∨(0<=r∧r<=1048576∧SmallI n l)))∧Below w.heap.size w w':=by
 have hlen:Hid (l.length=n):=h.len
 by_cases hb:L-(n:Int)<0
 ·go_enter Tryz.func175,Tryz.ntmps175
  go_wp2
  go_returns
  go_light
  exact ⟨⟨_,rfl,.inl rfl⟩,Below.refl _ _⟩
 ·go_enter Tryz.func175,Tryz.ntmps175
  go_wp2_with fail
  go_loopw [1,5] (fun lf ix wr=>∃ (k:Nat) (r:Int),k<=n∧ix=.int .i64 k∧lf=.int .i64 r∧0<=r∧r<=1048576∧Hid (∀ i x,i<k->l[i]?=some x->x.nm.size<=1048576∧x.ps.length<=1048576)∧Below w.heap.size w wr) (fun _ ix _=>n-(intOf ix).toNat)
  case atStart=>exact ⟨0,_,Nat.zero_le _,rfl,rfl,by omega,by omega,fun i e hi=>by omega,Below.refl _ _⟩
  case round=>
   obtain ⟨k,r,hk,rfl,rfl,hr0,hr1,hI,hB⟩:=hrel
   by_cases hlt:k<n
   ·obtain ⟨b,o,x,pa,pn,pc,rfl,hp,c0,c1,hP,_,_,_⟩:=bt_ (h.below hB) hlt
    have hp':Hid (l[k]?=some x):=hp
    obtain ⟨z1,z2⟩:=hbig x (List.mem_of_getElem? hp)
    have hpl:Hid (x.ps.length=pn):=hP.len
    rw [hpl.out] at z2
    clear hp hP
    go_wp2_with fail
    refine (kd_ x.nm pa pn pc r _ z1 z2 hr0 hr1).mono ?_
    rintro e w1 ⟨⟨q,rfl,hq⟩,hB1⟩
    rcases hq with rfl | ⟨q0,q1,q2,q3⟩
    ·go_wp2
     go_returns
     go_light
     exact ⟨⟨_,rfl,.inl rfl⟩,chain hB hB1⟩
    ·go_wp2
     go_roundw
     case rel=>
      refine ⟨k+1,q,by omega,by go_num,rfl,by omega,by omega,?_,chain hB hB1⟩
      intro i y hi hy
      by_cases hik:i=k
      ·subst hik
       rw [hp'.out] at hy
       obtain rfl:=Option.some.inj hy
       exact ⟨q2,by rw [hpl.out];exact q3⟩
      ·exact hI.out i y (by omega) hy
     case measure=>simp [intOf];omega
   ·obtain rfl:k=n:=by omega
    go_wp2
    go_returns
    go_light
    refine ⟨⟨r,rfl,.inr ⟨hr0,hr1,by omega,fun x hx=>?_⟩⟩,hB⟩
    obtain ⟨i,hi⟩:=List.getElem?_of_mem hx
    exact hI.out i x (by have:=(List.getElem?_eq_some_iff.1 hi).1;rw [hlen.out] at this;exact this) hi
theorem gT_ (B:Nat) (v:Vo) (pa:Option Addr) (pn pc:Nat) (L:Int) (w:World) (hI:ItsAt B w pa pn v.its) (hbig:BigI v.its) (hs:v.nm.size<=9223372036854775807) (hn:pn<=9223372036854775807) (h0:0<=L) (h1:L<=1048576) :
  Calls Tryz.prog 113 #[.agg #[.int .i64 v.id,.string v.nm,.bool v.fx,.slice pa pn pc],.int .i64 L] w fun e w'=>(∃ r:Int,e=.returned (.int .i64 r)∧(r=-1∨(0<=r∧r<=1048576∧v.nm.size<=1048576∧SmallI pn v.its)))∧Below w.heap.size w w':=by
 obtain ⟨id,nm,fx,its⟩:=v
 simp only at hs hI hbig
 by_cases h:L-(nm.size:Int)<0
 ·go_enter Tryz.func113,Tryz.ntmps113
  go_wp2
  go_returns
  exact ⟨⟨-1,rfl,.inl rfl⟩,by go_grown⟩
 ·go_enter Tryz.func113,Tryz.ntmps113
  go_wp2_with fail
  refine (iv_ B pa pn pc its (L-nm.size) _ (hI.below (by go_grown)) hbig hn (by omega) (by omega)).mono ?_
  rintro e w1 ⟨⟨r,rfl,hr⟩,hB1⟩
  replace hB1:Below w.heap.size w w1:=chain (by go_grown) hB1
  rcases hr with rfl | ⟨r0,r1,r2⟩
  ·go_wp2
   go_returns
   exact ⟨⟨-1,rfl,.inl rfl⟩,hB1⟩
  ·go_wp2
   go_returns
   exact ⟨⟨r,rfl,.inr ⟨r0,r1,by show nm.size<=_;omega,r2⟩⟩,hB1⟩
theorem gt_ (B:Nat) (a:Option Addr) (n cap:Nat) (l:List Vo) (L:Int) (w:World) (h:VsAt B w a n l) (hbig:BigV l) (hn:n<=9223372036854775807) (hL0:0<=L) (hL:L<=1048576) :
  Calls Tryz.prog 52 #[.slice a n cap,.int .i64 L] w fun e w'=>(∃ r:Int,e=.returned (.int .i64 r)∧(r=-1∨(0<=r∧r<=1048576∧SmallV n l)))∧Below w.heap.size w w':=by
 have hlen:Hid (l.length=n):=h.len
 by_cases hb:L-(n:Int)<0
 ·go_enter Tryz.func52,Tryz.ntmps52
  go_wp2
  go_returns
  go_light
  exact ⟨⟨_,rfl,.inl rfl⟩,Below.refl _ _⟩
 ·go_enter Tryz.func52,Tryz.ntmps52
  go_wp2_with fail
  go_loopw [1,5] (fun lf ix wr=>∃ (k:Nat) (r:Int),k<=n∧ix=.int .i64 k∧lf=.int .i64 r∧0<=r∧r<=1048576∧Hid (∀ i v,i<k->l[i]?=some v->v.nm.size<=1048576∧SmallI v.its.length v.its)∧Below w.heap.size w wr) (fun _ ix _=>n-(intOf ix).toNat)
  case atStart=>exact ⟨0,_,Nat.zero_le _,rfl,rfl,by omega,by omega,fun i e hi=>by omega,Below.refl _ _⟩
  case round=>
   obtain ⟨k,r,hk,rfl,rfl,hr0,hr1,hI,hB⟩:=hrel
   by_cases hlt:k<n
   ·obtain ⟨b,o,v,pa,pn,pc,rfl,hp,c0,c1,c2,c3,hP,_,_⟩:=cg_ (h.below hB) hlt
    have hp':Hid (l[k]?=some v):=hp
    obtain ⟨z1,z2,z3⟩:=hbig v (List.mem_of_getElem? hp)
    have hpl:Hid (v.its.length=pn):=hP.len
    rw [hpl.out] at z2
    clear hp
    go_wp2_with fail
    refine (gT_ B v pa pn pc r _ hP z3 z1 z2 hr0 hr1).mono ?_
    rintro e w1 ⟨⟨q,rfl,hq⟩,hB1⟩
    rcases hq with rfl | ⟨q0,q1,q2,q3⟩
    ·go_wp2
     go_returns
     go_light
     exact ⟨⟨_,rfl,.inl rfl⟩,chain hB hB1⟩
    ·go_wp2
     go_roundw
     case rel=>
      refine ⟨k+1,q,by omega,by go_num,rfl,by omega,by omega,?_,chain hB hB1⟩
      intro i y hi hy
      by_cases hik:i=k
      ·subst hik
       rw [hp'.out] at hy
       obtain rfl:=Option.some.inj hy
       exact ⟨q2,by rw [hpl.out];exact q3⟩
      ·exact hI.out i y (by omega) hy
     case measure=>simp [intOf];omega
   ·obtain rfl:k=n:=by omega
    go_wp2
    go_returns
    go_light
    refine ⟨⟨r,rfl,.inr ⟨hr0,hr1,by omega,fun x hx=>?_⟩⟩,hB⟩
    obtain ⟨i,hi⟩:=List.getElem?_of_mem hx
    exact hI.out i x (by have:=(List.getElem?_eq_some_iff.1 hi).1;rw [hlen.out] at this;exact this) hi
end Go.Proofs.YtigldeccfpkdmaaGreatDoor
