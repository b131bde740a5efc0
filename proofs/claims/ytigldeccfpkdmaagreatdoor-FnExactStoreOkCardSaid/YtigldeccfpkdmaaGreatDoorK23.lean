/- The laws' sizes, copies and comparisons of lists of these. Disks, as plain functions. Files of a disk, by the model: names, forms, places. Files put in their place, by the model. -/
import Derived.Test.YtigldeccfpkdmaaGreatDoorProg
import Derived.Test.YtigldeccfpkdmaaGreatDoorK22
import Derived.Test.YtigldeccfpkdmaaGreatDoorK04
import Derived.Test.YtigldeccfpkdmaaGreatDoorK03
namespace Go.Proofs.YtigldeccfpkdmaaGreatDoor
open Go.RowKit Go.BigFrame
set_option maxHeartbeats 20000000
set_option maxRecDepth 100000
theorem kH_ (p:Dp) (w:World) :
  Calls Tryz.prog 144 #[.agg #[.int .i64 p.k,.string p.nm,.string p.tt,.string p.d]] w fun e w'=>e=.returned (.agg #[.int .i64 p.k,.string p.nm,.string p.tt,.string p.d])∧Below w.heap.size w w':=by
 obtain ⟨k,nm,tt,d⟩:=p
 go_enter Tryz.func144,Tryz.ntmps144
 go_wp2
 go_returns
 go_light
 refine ⟨rfl,by go_grown⟩
def eqDp (p q:Dp):Bool:=p.k==q.k&&p.nm.toList==q.nm.toList&&p.tt.toList==q.tt.toList&&p.d.toList==q.d.toList
theorem kI_ (p q:Dp) (w:World) :
  Calls Tryz.prog 146 #[.agg #[.int .i64 p.k,.string p.nm,.string p.tt,.string p.d],.agg #[.int .i64 q.k,.string q.nm,.string q.tt,.string q.d]] w fun e w'=>e=.returned (.bool (eqDp p q))∧Below w.heap.size w w':=by
 obtain ⟨k1,nm1,tt1,d1⟩:=p
 obtain ⟨k2,nm2,tt2,d2⟩:=q
 go_enter Tryz.func146,Tryz.ntmps146
 go_wp2
 all_goals go_returns
 all_goals go_light
 all_goals refine ⟨?_,by go_grown⟩
 all_goals simp_all [eqDp]
/-- All bytes of it. -/
def bytesD (p:Dp):Nat:=p.nm.size+p.tt.size+p.d.size
def szD (left:Int) (p:Dp):Int:=if left-bytesD p<0 then -1 else left-bytesD p
theorem f2_ (p:Dp) (left:Int) (w:World) (h0:0<=left) (h1:left<=1048576) (hd:StrD p) :
  Calls Tryz.prog 136 #[.agg #[.int .i64 p.k,.string p.nm,.string p.tt,.string p.d],.int .i64 left] w fun e w'=>e=.returned (.int .i64 (szD left p))∧Below w.heap.size w w':=by
 obtain ⟨k,nm,tt,d⟩:=p
 obtain ⟨gnm,gtt,gd⟩:=hd
 simp only at gnm gtt gd
 by_cases h_nm:left-(nm.size:Int)<0
 ·have hf:Hid (szD left ⟨k,nm,tt,d⟩=-1):=by show _=_;simp [szD,bytesD];omega
  go_enter Tryz.func136,Tryz.ntmps136
  go_wp2
  go_returns
  go_light
  exact ⟨aA_ hf.out.symm,by go_grown⟩
 by_cases h_tt:left-(nm.size:Int)-(tt.size:Int)<0
 ·have hf:Hid (szD left ⟨k,nm,tt,d⟩=-1):=by show _=_;simp [szD,bytesD];omega
  go_enter Tryz.func136,Tryz.ntmps136
  go_wp2
  go_returns
  go_light
  exact ⟨aA_ hf.out.symm,by go_grown⟩
 by_cases h_d:left-(nm.size:Int)-(tt.size:Int)-(d.size:Int)<0
 ·have hf:Hid (szD left ⟨k,nm,tt,d⟩=-1):=by show _=_;simp [szD,bytesD];omega
  go_enter Tryz.func136,Tryz.ntmps136
  go_wp2
  go_returns
  go_light
  exact ⟨aA_ hf.out.symm,by go_grown⟩
 have hf:Hid (szD left ⟨k,nm,tt,d⟩=left-(nm.size:Int)-(tt.size:Int)-(d.size:Int)):=by show _=_;simp [szD,bytesD];omega
 go_enter Tryz.func136,Tryz.ntmps136
 go_wp2
 go_returns
 go_light
 exact ⟨aA_ hf.out.symm,by go_grown⟩
/-- A list that is within the budget. -/
def SmallD (n:Nat) (l:List Dp):Prop:=n<=1048576∧∀ e∈l,bytesD e<=1048576
theorem SmallD.strs {n:Nat} {l:List Dp} (h:SmallD n l):StrsD l:=fun e he=>by
 have:=h.2 e he
 unfold bytesD at this
 exact ⟨by omega,by omega,by omega⟩
theorem jB_ (a:Option Addr) (n cap:Nat) (l:List Dp) (L:Int) (w:World) (h:DpsAt w a n l) (hstr:StrsD l) (hn:n<=9223372036854775807) (hL0:0<=L) (hL:L<=1048576) :
  Calls Tryz.prog 69 #[.slice a n cap,.int .i64 L] w fun e w'=>(∃ r:Int,e=.returned (.int .i64 r)∧(r=-1∨(0<=r∧r<=1048576∧SmallD n l)))∧Below w.heap.size w w':=by
 have hlen:Hid (l.length=n):=h.len
 by_cases hb:L-(n:Int)<0
 ·go_enter Tryz.func69,Tryz.ntmps69
  go_wp2
  go_returns
  go_light
  exact ⟨⟨_,rfl,.inl rfl⟩,Below.refl _ _⟩
 ·go_enter Tryz.func69,Tryz.ntmps69
  go_wp2_with fail
  go_loopw [1,5] (fun lf ix wr=>∃ (k:Nat) (r:Int),k<=n∧ix=.int .i64 k∧lf=.int .i64 r∧0<=r∧r<=1048576∧Hid (∀ i e,i<k->l[i]?=some e->bytesD e<=1048576)∧Below w.heap.size w wr) (fun _ ix _=>n-(intOf ix).toNat)
  case atStart=>exact ⟨0,_,Nat.zero_le _,rfl,rfl,by omega,by omega,fun i e hi=>by omega,Below.refl _ _⟩
  case round=>
   obtain ⟨k,r,hk,rfl,rfl,hr0,hr1,hI,hB⟩:=hrel
   by_cases hlt:k<n
   ·obtain ⟨b,o,p,rfl,hp,c0,c1,c2,c3⟩:=hv_ (h.below hB) hlt
    have hp':Hid (l[k]?=some p):=hp
    have hsz:=hstr p (List.mem_of_getElem? hp)
    clear hp
    by_cases hs:r-(bytesD p:Int)<0
    ·have hf:Hid (szD r p=-1):=by show _=_;simp [szD];omega
     go_wp2_with fail
     refine (f2_ p r _ hr0 hr1 hsz).mono ?_
     rintro e w1 ⟨rfl,hB1⟩
     rw [hf.out]
     go_wp2
     go_returns
     go_light
     exact ⟨⟨_,rfl,.inl rfl⟩,chain hB hB1⟩
    ·have hf:Hid (szD r p=r-bytesD p):=by show _=_;simp [szD];omega
     go_wp2_with fail
     refine (f2_ p r _ hr0 hr1 hsz).mono ?_
     rintro e w1 ⟨rfl,hB1⟩
     rw [hf.out]
     have hbp:Hid (bytesD p<=1048576):=by show _<=_;omega
     have hr2:0<=r-(bytesD p:Int):=by omega
     have hr3:r-(bytesD p:Int)<=1048576:=by omega
     generalize r-(bytesD p:Int)=r' at *
     go_wp2
     go_roundw
     case rel=>
      refine ⟨k+1,r',by omega,by go_num,rfl,by omega,by omega,?_,chain hB hB1⟩
      intro i e hi he
      by_cases hik:i=k
      ·subst hik
       rw [hp'.out] at he
       obtain rfl:=Option.some.inj he
       exact hbp.out
      ·exact hI.out i e (by omega) he
     case measure=>simp [intOf];omega
   ·obtain rfl:k=n:=by omega
    go_wp2
    go_returns
    go_light
    refine ⟨⟨_,rfl,.inr ⟨hr0,hr1,by omega,?_⟩⟩,hB⟩
    intro e he
    obtain ⟨i,hi⟩:=List.mem_iff_getElem?.1 he
    refine hI.out i e ?_ hi
    have:=(List.getElem?_eq_some_iff.1 hi).1
    rw [hlen.out] at this;exact this
def eqDps:List Dp->List Dp->Bool
 |[],[]=>true
 |p::r,q::s=>eqDp p q&&eqDps r s
 |_,_=>false
theorem kJ_ (l:List Dp):eqDps l l=true:=by
 induction l with
 |nil=>rfl
 |cons p r ih=>simp [eqDps,eqDp,ih]
theorem mA_ {l:List Dp}:∀ {m:List Dp},l.length≠m.length->eqDps l m=false:=by
 induction l with
 |nil=>intro m h;cases m<;>simp [eqDps] at *
 |cons p r ih=>intro m h;cases m<;>simp [eqDps] at *;exact fun _=>ih h
theorem jC_ (a:Option Addr) (n cap:Nat) (l:List Dp) (a':Option Addr) (n' cap':Nat) (m:List Dp) (w:World) (h:DpsAt w a n l) (h':DpsAt w a' n' m) (hn:n<=4194304) (hn':n'<=4194304) :
  Calls Tryz.prog 77 #[.slice a n cap,.slice a' n' cap'] w fun e w'=>e=.returned (.bool (eqDps l m))∧Below w.heap.size w w':=by
 have hlen:Hid (l.length=n):=h.len
 have hlen':Hid (m.length=n'):=h'.len
 by_cases hne:n=n'
 ·subst hne
  have hbn:((n:Int) != (n:Int))=false:=by simp
  go_enter Tryz.func77,Tryz.ntmps77
  go_wp2_with fail
  go_loopw [5] (fun ix wr=>∃ (k:Nat),k<=n∧ix=.int .i64 k∧Hid (eqDps l m=eqDps (l.drop k) (m.drop k))∧Below w.heap.size w wr) (fun ix _=>n-(intOf ix).toNat)
  case atStart=>exact ⟨0,Nat.zero_le _,rfl,rfl,Below.refl _ _⟩
  case round=>
   obtain ⟨k,hk,rfl,hI,hB⟩:=hrel
   by_cases hlt:k<n
   ·obtain ⟨b,o,p,rfl,hp,c0,c1,c2,c3⟩:=hv_ (h.below hB) hlt
    obtain ⟨b',o',q,rfl,hq,d0,d1,d2,d3⟩:=hv_ (h'.below hB) hlt
    have hd:Hid (l.drop k=p::l.drop (k+1)):=aj_ hp
    have hd':Hid (m.drop k=q::m.drop (k+1)):=aj_ hq
    clear hp hq
    have hk1:(k:Int)<n:=by omega
    have hk2:(0:Int)<=k:=by omega
    cases hpq:eqDp p q
    all_goals
     go_wp2_with fail
     have g0:=gcell c0
     have j0:=gcell d0
     have g1:=gcell c1
     have j1:=gcell d1
     have g2:=gcell c2
     have j2:=gcell d2
     have g3:=gcell c3
     have j3:=gcell d3
     have hne:=aq_ wr
     refine aa_ (by kernel_rfl) (by kernel_rfl) ?_
     repeat (go_big_quiet_step (first | (go_at_call 146;have qq:=kI_ p q;rw [hpq] at qq;exact ag_ (qq _))))
     refine wpQuiet_nil ?_
     intro w2 hx
     have hB2:=ae_ hx
     clear hx
     go_wp2
    ·go_returns
     go_light
     refine ⟨ab_ ?_,chain hB hB2⟩
     rw [hI.out,hd.out,hd'.out];simp only [eqDps,hpq,Bool.false_and]
    ·go_roundw
     case rel=>exact ⟨k+1,by omega,by go_num,by show _=_;rw [hI.out,hd.out,hd'.out];simp only [eqDps,hpq,Bool.true_and],chain hB hB2⟩
     case measure=>simp [intOf];omega
   ·obtain rfl:k=n:=by omega
    go_wp2
    go_returns
    go_light
    refine ⟨ab_ ?_,hB⟩
    rw [hI.out,List.drop_of_length_le (Nat.le_of_eq hlen.out),List.drop_of_length_le (Nat.le_of_eq hlen'.out)];rfl
 ·have hbn:((n:Int) != (n':Int))=true:=by simp;omega
  go_enter Tryz.func77,Tryz.ntmps77
  go_wp2
  go_returns
  go_light
  refine ⟨ab_ ?_,Below.refl _ _⟩
  rw [mA_ (by rw [hlen.out,hlen'.out];exact hne)]
theorem jD_ (a:Option Addr) (n cap:Nat) (l:List Dp) (w:World) (h:DpsAt w a n l) (hn:n<=4194304) :
  Calls Tryz.prog 73 #[.slice a n cap] w fun e w'=>e=.returned (.slice (some ⟨w.heap.size,0,none⟩) n n)∧OwnAt Dp.cs 4 120 w' w.heap.size n l∧Below w.heap.size w w':=by
 have hlen':Hid (l.length=n):=h.len
 have hinfo:(Tryz.prog.info? 120).map (fun i=>(i.zero,i.size,i.bytes))=some (some (.agg #[.int .i64 0,.string .empty,.string .empty,.string .empty]),4,56):=by kernel_rfl
 obtain ⟨i0,hi,hz0,hz1,hz2⟩:=info_parts hinfo
 have hmk:∀ u:World,(Instr.makeSlice 50 (.int .i64 (n:Int)) (.int .i64 (n:Int))).run Tryz.prog u =
   .ok (.slice (some ⟨u.heap.size,0,none⟩) n n) (u.alloc (.cells (madeCells #[.int .i64 0,.string .empty,.string .empty,.string .empty] (n*4)) 120)):=fun u=>by
  have hm:=run_make (P:=Tryz.prog) u 50 120 i0 (.agg #[.int .i64 0,.string .empty,.string .empty,.string .empty]) Tryz.underlying50 hi hz0 .i64 .i64 (n:Int) (n:Int) (by omega) (Int.le_refl _) (by rw [hz2];omega) (by omega)
  simpa [hz1,Value.cells] using hm
 clear hinfo hi hz0 hz1 hz2
 go_enter Tryz.func73,Tryz.ntmps73
 go_wp2_with fail
 go_loopw [4] (fun ix wr=>∃ (k:Nat) (c:Array Value),k<=n∧ix=.int .i64 k∧Blk wr w.heap.size c 120∧Hid (c.size=n*4)∧Hid (∀ i p,i<k->l[i]?=some p->c[i*4]?=some (.int .i64 p.k)∧c[i*4+1]?=some (.string p.nm)∧c[i*4+2]?=some (.string p.tt)∧c[i*4+3]?=some (.string p.d))∧Below w.heap.size w wr) (fun ix _=>n-(intOf ix).toNat)
 case atStart=>exact ⟨0,_,Nat.zero_le _,rfl,Blk.new _ _ _,size_madeCells _ _,fun i p hi=>by omega,(Below.refl _ _).alloc (Nat.le_refl _) _⟩
 case round=>
  obtain ⟨k,c,hk,rfl,hblk,hcs,hcc,hB⟩:=hrel
  by_cases hlt:k<n
  ·obtain ⟨b,o,p,rfl,hp,c0,c1,c2,c3⟩:=hv_ (h.below hB) hlt
   have hp':Hid (l[k]?=some p):=hp
   clear hp hmk
   go_wp2_with fail
   refine (kH_ p _).mono ?_
   rintro e w1 ⟨rfl,hB1⟩
   have hb1:=hblk.below hB1
   have hsz:=hB.size
   have f0:=hb1.frozen (k*4)
   obtain ⟨v0,y0⟩:=hb1.has (i:=k*4) (by rw [hcs.out];omega)
   have f1:=hb1.frozen (k*4+1)
   obtain ⟨v1,y1⟩:=hb1.has (i:=k*4+1) (by rw [hcs.out];omega)
   have f2:=hb1.frozen (k*4+2)
   obtain ⟨v2,y2⟩:=hb1.has (i:=k*4+2) (by rw [hcs.out];omega)
   have f3:=hb1.frozen (k*4+3)
   obtain ⟨v3,y3⟩:=hb1.has (i:=k*4+3) (by rw [hcs.out];omega)
   go_wp2
   go_roundw
   case rel=>
    refine ⟨k+1,_,by omega,by go_num,((((hb1.set _ _).set _ _).set _ _).set _ _),by show _=_;simp [hcs.out],?_,?_⟩
    ·intro i q hi hq
     have hcs':=hcs.out
     by_cases hik:i=k
     ·subst hik
      obtain rfl:p=q:=by rw [hp'.out] at hq;exact Option.some.inj hq
      refine ⟨?_,?_,?_,?_⟩
      all_goals (simp [Array.getElem?_setIfInBounds];omega)
     ·obtain ⟨r0,r1,r2,r3⟩:=hcc.out i q (by omega) hq
      refine ⟨?_,?_,?_,?_⟩
      all_goals (rw [Array.getElem?_setIfInBounds_ne (by omega),Array.getElem?_setIfInBounds_ne (by omega),Array.getElem?_setIfInBounds_ne (by omega),Array.getElem?_setIfInBounds_ne (by omega)];assumption)
    ·exact (((((chain hB hB1).setCell (by simp) _).setCell (by simp) _).setCell (by simp) _).setCell (by simp) _)
   case measure=>simp [intOf];omega
  ·obtain rfl:k=n:=by omega
   go_wp2
   go_returns
   go_light
   refine ⟨rfl,⟨hlen'.out,c,hblk,Nat.le_of_eq hcs.out.symm,?_⟩,hB⟩
   intro i x hx j v hv
   have hi:i<k:=by have:=(List.getElem?_eq_some_iff.1 hx).1;rw [hlen'.out] at this;exact this
   obtain ⟨r0,r1,r2,r3⟩:=hcc.out i x hi hx
   match j,hv with
   |0,hv=>obtain rfl:=Option.some.inj hv;exact r0
   |1,hv=>obtain rfl:=Option.some.inj hv;exact r1
   |2,hv=>obtain rfl:=Option.some.inj hv;exact r2
   |3,hv=>obtain rfl:=Option.some.inj hv;exact r3
   |j+4,hv=>simp [Dp.cs] at hv
end Go.Proofs.YtigldeccfpkdmaaGreatDoor
namespace Go.Proofs.YtigldeccfpkdmaaGreatDoor
open Go.RowKit
set_option maxHeartbeats 20000000
set_option maxRecDepth 100000
def nmB (s:ByteArray):Bool:=decide (1<=s.size)&&decide (s.size<=100)
def emB (d:ByteArray):Bool:=d.toList==(⟨#[]⟩:ByteArray).toList
/-- Names that are names, and rise. -/
def fgo:Option Fl->List Fl->Bool
 |_,[]=>true
 |q,x::r=>nmB x.nm&&(match q with | none=>true | some p=>bl p.nm.toList x.nm.toList)&&fgo (some x) r
def sumB:List Fl->Nat
 |[]=>0
 |x::r=>x.d.size+sumB r
def filesB (l:List Fl):Bool:=decide (l.length<=60)&&fgo none l&&decide (sumB l<=200000)
def formB (o:Dp):Bool:=decide (1<=o.k)&&decide (o.k<=3)&&nmB o.nm&&(if o.k=2 then nmB o.tt&&emB o.d else emB o.tt&&(decide (o.k=1)||emB o.d))
def atF (l:List Fl) (nm:ByteArray):Option Nat:=l.findIdx? (fun x=>x.nm.toList==nm.toList)
/-- One round of putting a file in its place. -/
def putS (x:Fl) (st:List Fl×Bool) (y:Fl):List Fl×Bool:=
 ((if (!st.2&&!(bl y.nm.toList x.nm.toList))=true then st.1++[x] else st.1)++(if (y.nm.toList==x.nm.toList)=true then [] else [y]),st.2||!(bl y.nm.toList x.nm.toList))
def putE (x:Fl) (st:List Fl×Bool):List Fl:=if st.2=true then st.1 else st.1++[x]
def putK (x:Fl) (l:List Fl) (k:Nat):List Fl×Bool:=(l.take k).foldl (putS x) ([],false)
def putF (x:Fl) (l:List Fl):List Fl:=putE x (l.foldl (putS x) ([],false))
def cutF (nm:ByteArray) (l:List Fl):List Fl:=l.filter (fun y=>!(y.nm.toList==nm.toList))
def doF (l:List Fl) (o:Dp):List Fl×Bool:=
 match atF l o.nm with
 |none=>if o.k=1 then (putF ⟨o.nm,o.d⟩ l,true) else (l,false)
 |some i=>match l[i]? with
  |none=>(l,false)
  |some f=>if o.k=1 then (putF ⟨o.nm,f.d++o.d⟩ l,true) else if o.k=2 then (putF ⟨o.tt,f.d⟩ (cutF o.nm l),true) else (cutF o.nm l,true)
/-- All ops, one behind the other: none where one is not right. -/
def runF:List Fl->List Dp->Option (List Fl)
 |l,[]=>some l
 |l,o::r=>if ((doF l o).2&&formB o&&filesB (doF l o).1)=true then runF (doF l o).1 r else none
structure Dk where
 live:List Fl
 safe:List Fl
 ops:List Dp
def diskB (d:Dk):Bool:=filesB d.live&&filesB d.safe&&decide (d.ops.length<=200)&&(match runF d.safe d.ops with | none=>false | some l=>eqFls l d.live)
theorem mB_ {x:Fl} {l:List Fl} {k:Nat} {y:Fl} (h:l[k]?=some y):putK x l (k+1)=putS x (putK x l k) y:=by
 unfold putK
 rw [List.take_add_one,h]
 simp
theorem nN_ {x:Fl} {l:List Fl} {n:Nat} (h:l.length=n):putE x (putK x l n)=putF x l:=by
 unfold putK putF
 rw [List.take_of_length_le (Nat.le_of_eq h)]
theorem hw_ (x:Fl):∀ (l:List Fl) (st:List Fl×Bool),(l.foldl (putS x) st).1.length+(if (l.foldl (putS x) st).2=true then 0 else 1)<=st.1.length+(if st.2=true then 0 else 1)+l.length
 |[],st=>Nat.le_refl _
 |y::r,st=>by
  have h:=hw_ x r (putS x st y)
  rw [List.foldl_cons]
  have h2:(putS x st y).1.length+(if (putS x st y).2=true then 0 else 1)<=st.1.length+(if st.2=true then 0 else 1)+1:=by
   unfold putS
   obtain ⟨a,d⟩:=st
   cases d<;>cases bl y.nm.toList x.nm.toList<;>cases (y.nm.toList==x.nm.toList)<;>simp<;>omega
  simp only [List.length_cons]
  omega
theorem f3_ (x:Fl) (l:List Fl):(putF x l).length<=l.length+1:=by
 have h:=hw_ x l ([],false)
 unfold putF putE
 split
 ·rename_i hd;rw [if_pos hd] at h;simp at h;omega
 ·rename_i hd;rw [if_neg hd] at h;simp at h ⊢;omega
theorem eA_ (x:Fl):∀ (l:List Fl) (st:List Fl×Bool) (z:Fl),z∈(l.foldl (putS x) st).1->z∈st.1∨z=x∨z∈l
 |[],st,z,h=>.inl h
 |y::r,st,z,h=>by
  rcases eA_ x r _ z h with h | h | h
  ·simp only [putS] at h
   rcases List.mem_append.1 h with h | h
   ·split at h
    ·rcases List.mem_append.1 h with h | h
     ·exact .inl h
     ·exact .inr (.inl (by simpa using h))
    ·exact .inl h
   ·split at h
    ·cases h
    ·exact .inr (.inr (by simp at h;simp [h]))
  ·exact .inr (.inl h)
  ·exact .inr (.inr (by simp [h]))
theorem f4_ {x:Fl} {l:List Fl} {z:Fl} (h:z∈putF x l):z=x∨z∈l:=by
 unfold putF putE at h
 split at h
 ·rcases eA_ x l _ z h with h | h
  ·cases h
  ·exact h
 ·rcases List.mem_append.1 h with h | h
  ·rcases eA_ x l _ z h with h | h
   ·cases h
   ·exact h
  ·exact .inl (by simpa using h)
theorem jE_:∀ (a b:List Fl),sumB (a++b)=sumB a+sumB b
 |[],b=>by simp [sumB]
 |x::r,b=>by simp only [List.cons_append,sumB,jE_ r b];omega
theorem ec_:∀ {l:List Fl} {x:Fl},x∈l->x.d.size<=sumB l
 |y::r,x,h=>by
  rcases List.mem_cons.1 h with rfl | h
  ·simp only [sumB];omega
  ·have:=ec_ h;simp only [sumB];omega
theorem cO_ {l:List Fl} (h:filesB l=true):l.length<=60∧sumB l<=200000∧fgo none l=true:=by
 simp only [filesB,Bool.and_eq_true,decide_eq_true_eq] at h
 exact ⟨h.1.1,h.2,h.1.2⟩
theorem eB_:∀ {l:List Fl} {q:Option Fl},fgo q l=true->∀ x∈l,nmB x.nm=true
 |y::r,q,h,x,hx=>by
  simp only [fgo,Bool.and_eq_true] at h
  rcases List.mem_cons.1 hx with rfl | hx
  ·exact h.1.1
  ·exact eB_ h.2 x hx
end Go.Proofs.YtigldeccfpkdmaaGreatDoor
namespace Go.Proofs.YtigldeccfpkdmaaGreatDoor
open Go.RowKit Go.BigFrame
set_option maxHeartbeats 20000000
set_option maxRecDepth 100000
theorem c7_ (d:ByteArray) (w:World) (hd:d.size<=9223372036854775807) :
  Calls Tryz.prog 195 #[.string d] w fun e w'=>e=.returned (.bool (nmB d))∧w'=w:=by
 by_cases h1:1<=d.size
 ·have hf:Hid (decide ((d.size:Int)<=100)=nmB d):=by
   show _=_
   have h2:((d.size:Int)<=100)↔d.size<=100:=by omega
   simp [nmB,h1,h2]
  go_enter Tryz.func195,Tryz.ntmps195
  go_wp2
  go_returns
  exact ⟨ab_ hf.out,rfl⟩
 ·have hf:Hid (nmB d=false):=by show _=_;simp [nmB];omega
  go_enter Tryz.func195,Tryz.ntmps195
  go_wp2
  go_returns
  exact ⟨ab_ hf.out.symm,rfl⟩
theorem kK_ (n low high:Int) (w:World) :
  Calls Tryz.prog 54 #[.int .i64 n,.int .i64 low,.int .i64 high] w fun e w'=>e=.returned (.bool (decide (low<=n)&&decide (n<=high)))∧w'=w:=by
 by_cases h1:low<=n<;>by_cases h2:n<=high
 all_goals
  have hf:Hid ((decide (low<=n)&&decide (n<=high))=(decide (low<=n)&&decide (n<=high))):=rfl
  go_enter Tryz.func54,Tryz.ntmps54
  go_wp2
  go_returns
  exact ⟨by simp [*],rfl⟩
/-- Where a file is: its place, or -1. -/
def plF (o:Option Nat):Int:=match o with | none=>-1 | some i=>i
theorem jF_ {l:List Fl} {nm:ByteArray} {k:Nat} {x:Fl} (h:l[k]?=some x):(atF (l.drop k) nm).map (·+k)=if (x.nm.toList==nm.toList)=true then some k else (atF (l.drop (k+1)) nm).map (·+(k+1)):=by
 unfold atF
 rw [aj_ h,List.findIdx?_cons]
 split
 ·simp
 ·simp only [Option.map_map]
  congr 1
  funext i
  simp only [Function.comp]
  omega
theorem bY_ (a:Option Addr) (n cap:Nat) (l:List Fl) (nm:ByteArray) (w:World) (h:FlsAt w a n l) (hn:n<=4194304) :
  Calls Tryz.prog 141 #[.slice a n cap,.string nm] w fun e w'=>e=.returned (.int .i64 (plF (atF l nm)))∧w'=w:=by
 have hlen:Hid (l.length=n):=h.len
 go_enter Tryz.func141,Tryz.ntmps141
 go_wp2_with fail
 go_loopw [5] (fun ix wr=>∃ k:Nat,k<=n∧ix=.int .i64 k∧Hid (atF l nm=(atF (l.drop k) nm).map (·+k))∧w=wr) (fun ix _=>n-(intOf ix).toNat)
 case atStart=>exact ⟨0,Nat.zero_le _,rfl,by show _=_;simp,rfl⟩
 case round=>
  obtain ⟨k,hk,rfl,hI,rfl⟩:=hrel
  by_cases hlt:k<n
  ·obtain ⟨b,o,p,rfl,hp,c0,c1⟩:=bk_ h hlt
   have hst:=jF_ (nm:=nm) hp
   clear hp
   have hk1:(k:Int)<n:=by omega
   have hk2:(0:Int)<=k:=by omega
   cases heq:(p.nm.toList==nm.toList)
   ·have hq:¬ p.nm.toList=nm.toList:=by simpa using heq
    rw [heq,if_neg (by simp)] at hst
    have hst':Hid (atF l nm=(atF (l.drop (k+1)) nm).map (·+(k+1))):=by show _=_;rw [hI.out];exact hst
    clear hst hI
    go_wp2
    go_roundw
    case rel=>exact ⟨k+1,by omega,by go_num,hst',by first | trivial | rfl⟩
    case measure=>simp [intOf];omega
   ·have hq:p.nm.toList=nm.toList:=by simpa using heq
    rw [heq,if_pos rfl] at hst
    have hst':Hid (atF l nm=some k):=by show _=_;rw [hI.out];exact hst
    clear hst hI
    go_wp2
    go_returns
    exact ⟨by rw [hst'.out];rfl,rfl⟩
  ·obtain rfl:k=n:=by omega
   have hend:Hid (atF l nm=none):=by
    show _=_
    rw [hI.out,List.drop_of_length_le (Nat.le_of_eq hlen.out)];rfl
   clear hI
   go_wp2
   go_returns
   exact ⟨by rw [hend.out];rfl,rfl⟩
theorem infoFl:(Tryz.prog.info? 123).map (fun i=>(i.zero,i.size,i.bytes))=some (some (.agg #[.string .empty,.string .empty]),2,32):=by kernel_rfl
theorem bl_ (w:World) (r:Fl) (t:TypeId) (b:Nat) (hb:b=w.heap.size):SlAt Fl.cs 2 (w.alloc (.cells #[.string r.nm,.string r.d] t)) (some ⟨b,0,none⟩) 1 [r]:=by
 subst hb
 refine ⟨rfl,fun i y hy=>⟨_,0,rfl,fun j v hv=>?_⟩⟩
 have hi:i=0:=by have:=(List.getElem?_eq_some_iff.1 hy).1;simp at this;exact this
 subst hi
 simp at hy
 subst hy
 rw [World.cell?_alloc_new]
 simp only [Nat.zero_mul,Nat.zero_add]
 match j,hv with
 |0,hv=>exact hv
 |1,hv=>exact hv
 |j+2,hv=>simp [Fl.cs] at hv
section
variable {o:Oper} {a:Act} {w:World} {K:Act->World->Prop} {Q:Exit->Act->World->Prop}
theorem a6_ (s x:Operand) (ho:o.op=.call {callee:=.builtin .append,args:=#[s,x],argTypes:=#[49,49]})
  (B:Nat) (da:Option Addr) (dn dcap:Nat) (ld:List Fl) (hs:a.eval s=.slice da dn dcap) (hd:ResAt Fl.cs 2 123 w B da dn dcap ld)
  (sa:Option Addr) (sn scap:Nat) (ls:List Fl) (hx:a.eval x=.slice sa sn scap) (hsrc:FlsAt w sa sn ls) (hspot:∀ ad,sa=some ad->ad.spot=none) (hnone:sa=none->scap=0)
  (tot:Nat) (htot:dn+sn=tot) (h63:tot<=9000000) (hbase:B<=w.heap.size)
  (h:∀ a' cap' w',ResAt Fl.cs 2 123 w' B a' tot cap' (ld++ls)->w.grownBy w' (Value.ownBlock (.slice da dn dcap))->K (a.put o.dst (.slice a' tot cap')) w'):o.wp Tryz.prog a w K Q:=by
 obtain ⟨i0,hi,hz0,hz1,hz2⟩:=info_parts infoFl
 exact be_ s x _ ho B _ i0 _ 32 Tryz.underlying49 hi hz0 hz1 hz2 rfl (by decide) f1_ nM_ da dn dcap ld hs hd sa sn scap ls hx hsrc hspot hnone tot htot (by unfold maxLen;omega) (by omega) hbase h
end
theorem f5_ (a:Option Addr) (n cap:Nat) (l:List Fl) (nm:ByteArray) (w:World) (h:FlsAt w a n l) (hn:n<=4194304) :
  Calls Tryz.prog 197 #[.slice a n cap,.string nm] w fun e w'=>(∃ a' n' cap',e=.returned (.slice a' n' cap')∧n'<=n∧ResAt Fl.cs 2 123 w' w.heap.size a' n' cap' (cutF nm l))∧Below w.heap.size w w':=by
 have hlen:Hid (l.length=n):=h.len
 go_enter Tryz.func197,Tryz.ntmps197
 go_wp2_with fail
 go_loopw [5,6] (fun out ix wr=>∃ (k:Nat) (a2:Option Addr) (n2 cap2:Nat),k<=n∧ix=.int .i64 k∧out=.slice a2 n2 cap2∧n2<=k∧ResAt Fl.cs 2 123 wr w.heap.size a2 n2 cap2 (cutF nm (l.take k))∧Below w.heap.size w wr) (fun _ ix _=>n-(intOf ix).toNat)
 case atStart=>exact ⟨0,_,0,0,Nat.zero_le _,rfl,rfl,Nat.le_refl _,a1_ (Blk.new' _ _ _ _ rfl) (Nat.le_refl _),by go_grown⟩
 case round=>
  obtain ⟨k,a2,n2,cap2,hk,rfl,rfl,hn2,R,hB⟩:=hrel
  have hsz:=hB.size
  by_cases hlt:k<n
  ·obtain ⟨b,o,p,rfl,hp,c0,c1⟩:=bk_ (h.below hB) hlt
   have hst:cutF nm (l.take (k+1))=cutF nm (l.take k)++(if (p.nm.toList==nm.toList)=true then [] else [p]):=by
    unfold cutF
    rw [aO_ hp,List.filter_append]
    cases hq:(p.nm.toList==nm.toList)<;>simp [hq]
   clear hp
   have hk1:(k:Int)<n:=by omega
   have hk2:(0:Int)<=k:=by omega
   generalize cutF nm (l.take k)=G at *
   cases heq:(p.nm.toList==nm.toList)
   ·have hq:¬ p.nm.toList=nm.toList:=by simpa using heq
    rw [heq,if_neg (by simp)] at hst
    have hst':Hid (cutF nm (l.take (k+1))=G++[p]):=hst
    clear hst
    go_wp2_with (at_builtin;refine al_ rfl (fun K hK=>a6_ _ _ rfl w.heap.size a2 n2 cap2 G rfl (R.alloc _) _ 1 1 [p] rfl (bl_ _ p _ _ rfl) (fun ad h=>(by cases h;rfl)) (fun h=>(by cases h)) (n2+1) rfl (by omega) (by simp;omega) (fun a3 cap3 w3 R3 hg3=>hK _ _ ?_)))
    have hB3:Below w.heap.size w w3:=Below.grown (hB.alloc hsz _) hg3 (by simp;omega) (aI_ fun ad had=>(R.block ad had).1)
    go_wp2
    go_roundw
    case rel=>exact ⟨k+1,a3,n2+1,cap3,by omega,by go_num,rfl,by omega,by rw [hst'.out];exact R3,hB3⟩
    case measure=>simp [intOf];omega
   ·have hq:p.nm.toList=nm.toList:=by simpa using heq
    rw [heq,if_pos rfl,List.append_nil] at hst
    have hst':Hid (cutF nm (l.take (k+1))=G):=hst
    clear hst
    go_wp2
    go_roundw
    case rel=>exact ⟨k+1,a2,n2,cap2,by omega,by go_num,rfl,by omega,by rw [hst'.out];exact R,hB⟩
    case measure=>simp [intOf];omega
  ·obtain rfl:k=n:=by omega
   rw [List.take_of_length_le (Nat.le_of_eq hlen.out)] at R
   go_wp2
   go_returns
   exact ⟨⟨a2,n2,cap2,rfl,hn2,R⟩,hB⟩
theorem fo_ {a:Option Addr} {n cap x B:Nat} (h:∀ ad,a=some ad->B<=ad.block) (hx:x<B):some x≠Value.ownBlock (.slice a n cap):=by
 cases a with
 |none=>simp [Value.ownBlock]
 |some ad=>have:=h ad rfl;simp [Value.ownBlock];omega
theorem dN_ (a:Option Addr) (n cap:Nat) (l:List Fl) (nm d:ByteArray) (w:World) (h:FlsAt w a n l) (hn:n<=4194304) :
  Calls Tryz.prog 196 #[.slice a n cap,.string nm,.string d] w fun e w'=>(∃ a' n' cap',e=.returned (.slice a' n' cap')∧ResAt Fl.cs 2 123 w' w.heap.size a' n' cap' (putF ⟨nm,d⟩ l))∧Below w.heap.size w w':=by
 have hlen:Hid (l.length=n):=h.len
 go_enter Tryz.func196,Tryz.ntmps196
 go_wp2_with fail
 go_loopw [7,8,9] (fun out dn ix wr=>∃ (k:Nat) (a2:Option Addr) (n2 cap2:Nat),k<=n∧ix=.int .i64 k∧dn=.bool (putK ⟨nm,d⟩ l k).2∧out=.slice a2 n2 cap2∧n2<=2*k∧ResAt Fl.cs 2 123 wr w.heap.size a2 n2 cap2 (putK ⟨nm,d⟩ l k).1∧Below w.heap.size w wr) (fun _ _ ix _=>n-(intOf ix).toNat)
 case atStart=>exact ⟨0,_,0,0,Nat.zero_le _,rfl,rfl,rfl,by omega,a1_ (Blk.new' _ _ _ _ rfl) (Nat.le_refl _),by go_grown⟩
 case round=>
  obtain ⟨k,a2,n2,cap2,hk,rfl,rfl,rfl,hn2,R,hB⟩:=hrel
  have hsz:=hB.size
  by_cases hlt:k<n
  ·obtain ⟨b,o,y,rfl,hy,c0,c1⟩:=bk_ (h.below hB) hlt
   have hbw:b<w.heap.size:=by
    obtain ⟨b',o',_,hbo,_,f0,_⟩:=bk_ h hlt
    obtain ⟨rfl,rfl⟩:b=b'∧o=o':=by simpa using hbo
    exact World.block_lt_of_cell? w _ f0
   have hst:Hid (putK ⟨nm,d⟩ l (k+1)=putS ⟨nm,d⟩ (putK ⟨nm,d⟩ l k) y):=mB_ hy
   clear hy
   have hk1:(k:Int)<n:=by omega
   have hk2:(0:Int)<=k:=by omega
   generalize putK ⟨nm,d⟩ l k=G at *
   obtain ⟨gl,dd⟩:=G
   simp only at R ⊢
   cases dd
   ·cases hbl:bl y.nm.toList nm.toList
    ·cases heq:(y.nm.toList==nm.toList)
     ·have he:Hid (putS ⟨nm,d⟩ (gl,false) y=(gl++[(⟨nm,d⟩:Fl)]++[y],true)):=by show _=_;simp [putS,hbl,heq]
      have hq:¬ y.nm.toList=nm.toList:=by simpa using heq
      go_wp2_with (first | (at_builtin;refine al_ rfl (fun K hK=>a6_ _ _ rfl w.heap.size a3 (n2+1) cap3 (gl++[(⟨nm,d⟩:Fl)]) rfl (R3.alloc _) _ 1 1 [y] rfl (bl_ _ y _ _ (by simp)) (fun ad h=>(by cases h;rfl)) (fun h=>(by cases h)) ((n2+1)+1) rfl (by omega) (by simp;omega) (fun a4 cap4 w4 R4 hg4=>hK _ _ ?_));have hB4:Below w.heap.size w w4:=Below.grown (hB3.alloc hB3.size _) hg4 (by have:=hB3.size;simp;omega) (aI_ fun ad had=>(R3.block ad had).1);have hsz4:=hB4.size) | (at_builtin;refine al_ rfl (fun K hK=>a6_ _ _ rfl w.heap.size a2 n2 cap2 gl rfl (R.alloc _) _ 1 1 [(⟨nm,d⟩:Fl)] rfl (bl_ _ (⟨nm,d⟩:Fl) _ _ (by simp)) (fun ad h=>(by cases h;rfl)) (fun h=>(by cases h)) (n2+1) rfl (by omega) (by simp;omega) (fun a3 cap3 w3 R3 hg3=>hK _ _ ?_));have hB3:Below w.heap.size w w3:=Below.grown (hB.alloc hsz _) hg3 (by have:=hsz;simp;omega) (aI_ fun ad had=>(R.block ad had).1);have hsz3:=hB3.size;have c0':=hg3.cell (a:=⟨b,o+k*2,none⟩) (acell _ c0) (fo_ (fun ad had=>(R.block ad had).1) hbw);have c1':=hg3.cell (a:=⟨b,o+k*2+1,none⟩) (acell _ c1) (fo_ (fun ad had=>(R.block ad had).1) hbw);have za:=fun ob=>acell (w:=w3) ob c0';have zb:=fun ob=>acell (w:=w3) ob c1'))
      go_wp2
      go_roundw
      case rel=>exact ⟨k+1,a4,(n2+1+1),cap4,by omega,by go_num,by rw [hst.out,he.out],rfl,by omega,by rw [hst.out,he.out];exact R4,hB4⟩
      case measure=>simp [intOf];omega
     ·have he:Hid (putS ⟨nm,d⟩ (gl,false) y=(gl++[(⟨nm,d⟩:Fl)],true)):=by show _=_;simp [putS,hbl,heq]
      have hq:y.nm.toList=nm.toList:=by simpa using heq
      have hbl2:=hbl
      rw [hq] at hbl2
      go_wp2_with (at_builtin;refine al_ rfl (fun K hK=>a6_ _ _ rfl w.heap.size a2 n2 cap2 gl rfl (R.alloc _) _ 1 1 [(⟨nm,d⟩:Fl)] rfl (bl_ _ (⟨nm,d⟩:Fl) _ _ (by simp)) (fun ad h=>(by cases h;rfl)) (fun h=>(by cases h)) (n2+1) rfl (by omega) (by simp;omega) (fun a3 cap3 w3 R3 hg3=>hK _ _ ?_));have hB3:Below w.heap.size w w3:=Below.grown (hB.alloc hsz _) hg3 (by have:=hsz;simp;omega) (aI_ fun ad had=>(R.block ad had).1);have hsz3:=hB3.size;have c0':=hg3.cell (a:=⟨b,o+k*2,none⟩) (acell _ c0) (fo_ (fun ad had=>(R.block ad had).1) hbw);have c1':=hg3.cell (a:=⟨b,o+k*2+1,none⟩) (acell _ c1) (fo_ (fun ad had=>(R.block ad had).1) hbw))
      go_wp2
      go_roundw
      case rel=>exact ⟨k+1,a3,(n2+1),cap3,by omega,by go_num,by rw [hst.out,he.out],rfl,by omega,by rw [hst.out,he.out];exact R3,hB3⟩
      case measure=>simp [intOf];omega
    ·cases heq:(y.nm.toList==nm.toList)
     ·have he:Hid (putS ⟨nm,d⟩ (gl,false) y=(gl++[y],false)):=by show _=_;simp [putS,hbl,heq]
      have hq:¬ y.nm.toList=nm.toList:=by simpa using heq
      go_wp2_with (at_builtin;refine al_ rfl (fun K hK=>a6_ _ _ rfl w.heap.size a2 n2 cap2 gl rfl (R.alloc _) _ 1 1 [y] rfl (bl_ _ y _ _ (by simp)) (fun ad h=>(by cases h;rfl)) (fun h=>(by cases h)) (n2+1) rfl (by omega) (by simp;omega) (fun a3 cap3 w3 R3 hg3=>hK _ _ ?_));have hB3:Below w.heap.size w w3:=Below.grown (hB.alloc hsz _) hg3 (by have:=hsz;simp;omega) (aI_ fun ad had=>(R.block ad had).1);have hsz3:=hB3.size)
      go_wp2
      go_roundw
      case rel=>exact ⟨k+1,a3,(n2+1),cap3,by omega,by go_num,by rw [hst.out,he.out],rfl,by omega,by rw [hst.out,he.out];exact R3,hB3⟩
      case measure=>simp [intOf];omega
     ·have he:Hid (putS ⟨nm,d⟩ (gl,false) y=(gl,false)):=by show _=_;simp [putS,hbl,heq]
      have hq:y.nm.toList=nm.toList:=by simpa using heq
      have hbl2:=hbl
      rw [hq] at hbl2
      go_wp2
      go_roundw
      case rel=>exact ⟨k+1,a2,n2,cap2,by omega,by go_num,by rw [hst.out,he.out],rfl,by omega,by rw [hst.out,he.out];exact R,hB⟩
      case measure=>simp [intOf];omega
   ·cases hbl:bl y.nm.toList nm.toList
    ·cases heq:(y.nm.toList==nm.toList)
     ·have he:Hid (putS ⟨nm,d⟩ (gl,true) y=(gl++[y],true)):=by show _=_;simp [putS,hbl,heq]
      have hq:¬ y.nm.toList=nm.toList:=by simpa using heq
      go_wp2_with (at_builtin;refine al_ rfl (fun K hK=>a6_ _ _ rfl w.heap.size a2 n2 cap2 gl rfl (R.alloc _) _ 1 1 [y] rfl (bl_ _ y _ _ (by simp)) (fun ad h=>(by cases h;rfl)) (fun h=>(by cases h)) (n2+1) rfl (by omega) (by simp;omega) (fun a3 cap3 w3 R3 hg3=>hK _ _ ?_));have hB3:Below w.heap.size w w3:=Below.grown (hB.alloc hsz _) hg3 (by have:=hsz;simp;omega) (aI_ fun ad had=>(R.block ad had).1);have hsz3:=hB3.size)
      go_wp2
      go_roundw
      case rel=>exact ⟨k+1,a3,(n2+1),cap3,by omega,by go_num,by rw [hst.out,he.out],rfl,by omega,by rw [hst.out,he.out];exact R3,hB3⟩
      case measure=>simp [intOf];omega
     ·have he:Hid (putS ⟨nm,d⟩ (gl,true) y=(gl,true)):=by show _=_;simp [putS,hbl,heq]
      have hq:y.nm.toList=nm.toList:=by simpa using heq
      have hbl2:=hbl
      rw [hq] at hbl2
      go_wp2
      go_roundw
      case rel=>exact ⟨k+1,a2,n2,cap2,by omega,by go_num,by rw [hst.out,he.out],rfl,by omega,by rw [hst.out,he.out];exact R,hB⟩
      case measure=>simp [intOf];omega
    ·cases heq:(y.nm.toList==nm.toList)
     ·have he:Hid (putS ⟨nm,d⟩ (gl,true) y=(gl++[y],true)):=by show _=_;simp [putS,hbl,heq]
      have hq:¬ y.nm.toList=nm.toList:=by simpa using heq
      go_wp2_with (at_builtin;refine al_ rfl (fun K hK=>a6_ _ _ rfl w.heap.size a2 n2 cap2 gl rfl (R.alloc _) _ 1 1 [y] rfl (bl_ _ y _ _ (by simp)) (fun ad h=>(by cases h;rfl)) (fun h=>(by cases h)) (n2+1) rfl (by omega) (by simp;omega) (fun a3 cap3 w3 R3 hg3=>hK _ _ ?_));have hB3:Below w.heap.size w w3:=Below.grown (hB.alloc hsz _) hg3 (by have:=hsz;simp;omega) (aI_ fun ad had=>(R.block ad had).1);have hsz3:=hB3.size)
      go_wp2
      go_roundw
      case rel=>exact ⟨k+1,a3,(n2+1),cap3,by omega,by go_num,by rw [hst.out,he.out],rfl,by omega,by rw [hst.out,he.out];exact R3,hB3⟩
      case measure=>simp [intOf];omega
     ·have he:Hid (putS ⟨nm,d⟩ (gl,true) y=(gl,true)):=by show _=_;simp [putS,hbl,heq]
      have hq:y.nm.toList=nm.toList:=by simpa using heq
      have hbl2:=hbl
      rw [hq] at hbl2
      go_wp2
      go_roundw
      case rel=>exact ⟨k+1,a2,n2,cap2,by omega,by go_num,by rw [hst.out,he.out],rfl,by omega,by rw [hst.out,he.out];exact R,hB⟩
      case measure=>simp [intOf];omega
  ·obtain rfl:k=n:=by omega
   have hend:Hid (putE ⟨nm,d⟩ (putK ⟨nm,d⟩ l k)=putF ⟨nm,d⟩ l):=nN_ hlen.out
   generalize putK ⟨nm,d⟩ l k=G at *
   obtain ⟨gl,dd⟩:=G
   simp only at R ⊢
   cases dd
   ·have he:Hid (putF ⟨nm,d⟩ l=gl++[(⟨nm,d⟩:Fl)]):=by show _=_;rw [<-hend.out];simp [putE]
    go_wp2_with (at_builtin;refine al_ rfl (fun K hK=>a6_ _ _ rfl w.heap.size a2 n2 cap2 gl rfl (R.alloc _) _ 1 1 [(⟨nm,d⟩:Fl)] rfl (bl_ _ (⟨nm,d⟩:Fl) _ _ (by simp)) (fun ad h=>(by cases h;rfl)) (fun h=>(by cases h)) (n2+1) rfl (by omega) (by simp;omega) (fun a3 cap3 w3 R3 hg3=>hK _ _ ?_));have hB3:Below w.heap.size w w3:=Below.grown (hB.alloc hsz _) hg3 (by have:=hsz;simp;omega) (aI_ fun ad had=>(R.block ad had).1);have hsz3:=hB3.size)
    go_wp2
    go_returns
    exact ⟨⟨a3,_,cap3,rfl,by rw [he.out];exact R3⟩,hB3⟩
   ·have he:Hid (putF ⟨nm,d⟩ l=gl):=by show _=_;rw [<-hend.out];simp [putE]
    go_wp2
    go_returns
    exact ⟨⟨a2,n2,cap2,rfl,by rw [he.out];exact R⟩,hB⟩
end Go.Proofs.YtigldeccfpkdmaaGreatDoor
