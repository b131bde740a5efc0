/- ownerOk of the program, l3Owner of the model. LateOk and RefsOk, of the program and of the model. RefsOk, of the program and of the model. Merged and Flushed of the model. The laws' sizes, copies and comparisons of owners and counts. The laws' sizes, copies and comparisons of lists of counts. -/
import Derived.Test.YtigldeccfpkdmaaGreatDoorProg
import Derived.Test.YtigldeccfpkdmaaGreatDoorK06
import Derived.Test.YtigldeccfpkdmaaGreatDoorK05
import Derived.Laws.Rows
import Derived.Test.YtigldeccfpkdmaaGreatDoorK04
namespace Go.Proofs.YtigldeccfpkdmaaGreatDoor
open Go.RowKit Go.BigFrame
set_option maxHeartbeats 20000000
set_option maxRecDepth 100000
def ownerOkB (o:Ow):Bool:=decide (1<=o.a)&&decide (o.a<=400)&&decide (1<=o.v)&&decide (o.v<=1000000000)&&nameB o.f
theorem aQ_ (p:Ow) (w:World) (hd:p.f.size<=9223372036854775807) :
  Calls Tryz.prog 204 #[.agg #[.int .i64 p.a,.int .i64 p.v,.string p.f]] w fun e w'=>e=.returned (.bool (ownerOkB p))∧Below w.heap.size w w':=by
 by_cases h:1<=p.a∧p.a<=400∧1<=p.v∧p.v<=1000000000
 ·have hfin:Hid (ownerOkB p=nameB p.f):=by show _=_;simp [ownerOkB,h]
  generalize ownerOkB p=R at *
  obtain ⟨a,v,f⟩:=p
  simp only at *
  obtain ⟨h1,h2,h3,h4⟩:=h
  go_enter Tryz.func204,Tryz.ntmps204
  go_wp2_with fail
  refine (ce_ f _ hd).mono ?_
  rintro e w1 ⟨rfl,rfl⟩
  go_wp2
  go_returns
  go_light
  exact ⟨ab_ hfin.out.symm,by go_grown⟩
 ·have hfin:Hid (ownerOkB p=false):=by show _=_;simp [ownerOkB];omega
  generalize ownerOkB p=R at *
  obtain ⟨a,v,f⟩:=p
  simp only at *
  go_enter Tryz.func204,Tryz.ntmps204
  go_wp2
  all_goals go_returns
  all_goals go_light
  all_goals exact ⟨ab_ hfin.out.symm,by go_grown⟩
theorem aR_ (p:Ow) (w:World) (hd:p.f.size<=9223372036854775807) :
  Calls Tryz.prog 213 #[.agg #[.int .i64 p.a,.int .i64 p.v,.string p.f]] w fun e w'=>e=.returned (.bool (ownerOkB p))∧Below w.heap.size w w':=by
 have hfin:Hid (ownerOkB p=((decide (1<=p.a)&&decide (p.a<=400))&&(decide (1<=p.v)&&decide (p.v<=1000000000))&&nameB p.f)):=by show _=_;simp [ownerOkB,Bool.and_assoc]
 generalize ownerOkB p=R at *
 obtain ⟨a,v,f⟩:=p
 simp only at *
 cases h1:(decide (1<=a)&&decide (a<=400))
 ·go_enter Tryz.func213,Tryz.ntmps213
  go_wp2_with fail
  refine (ao_ _ _ _ _).mono ?_
  rintro e w1 ⟨rfl,rfl⟩
  rw [h1]
  go_wp2
  go_returns
  go_light
  exact ⟨ab_ (by rw [hfin.out,h1];rfl),by go_grown⟩
 ·cases h2:(decide (1<=v)&&decide (v<=1000000000))
  ·go_enter Tryz.func213,Tryz.ntmps213
   go_wp2_with fail
   refine (ao_ _ _ _ _).mono ?_
   rintro e w1 ⟨rfl,rfl⟩
   rw [h1]
   go_wp2_with fail
   refine (ao_ _ _ _ _).mono ?_
   rintro e w1 ⟨rfl,rfl⟩
   rw [h2]
   go_wp2
   go_returns
   go_light
   exact ⟨ab_ (by rw [hfin.out,h1,h2];rfl),by go_grown⟩
  ·go_enter Tryz.func213,Tryz.ntmps213
   go_wp2_with fail
   refine (ao_ _ _ _ _).mono ?_
   rintro e w1 ⟨rfl,rfl⟩
   rw [h1]
   go_wp2_with fail
   refine (ao_ _ _ _ _).mono ?_
   rintro e w1 ⟨rfl,rfl⟩
   rw [h2]
   go_wp2_with fail
   refine (bH_ f _ hd).mono ?_
   rintro e w1 ⟨rfl,rfl⟩
   go_wp2
   go_returns
   go_light
   exact ⟨ab_ (by rw [hfin.out,h1,h2];rfl),by go_grown⟩
def StrC (l:List Ct):Prop:=∀ c∈l,c.o.f.size<=9223372036854775807
theorem StrC.at {l:List Ct} (h:StrC l) {k:Nat} {e:Ct} (he:l[k]?=some e):e.o.f.size<=9223372036854775807:=h e (List.mem_of_getElem? he)
def lateB (c:Ct):Bool:=ownerOkB c.o&&decide (-1000<=c.n)&&decide (c.n<=1000)&&!(c.n==0)
def lateOkB (l:List Ct):Bool:=decide (l.length<=200)&&l.all lateB
theorem box4 {w w1:World} {x y z u:Value} {t:TypeId} (hb:Below (w.alloc (.cells #[x,y,z,u] t)).heap.size (w.alloc (.cells #[x,y,z,u] t)) w1) :
  w1.cell? ⟨w.heap.size,0,none⟩=some x∧w1.cell? ⟨w.heap.size,1,none⟩=some y∧w1.cell? ⟨w.heap.size,2,none⟩=some z∧w1.cell? ⟨w.heap.size,3,none⟩=some u∧Below w.heap.size w w1∧w.heap.size<w1.heap.size:=
 ⟨bcell hb (World.cell?_alloc_new _ _ _ 0),bcell hb (World.cell?_alloc_new _ _ _ 1),bcell hb (World.cell?_alloc_new _ _ _ 2),bcell hb (World.cell?_alloc_new _ _ _ 3),
  ((Below.refl _ _).alloc (Nat.le_refl _) _).trans (hb.mono (by simp)),by have:=hb.size;simp at this;omega⟩
theorem eU_ (a:Option Addr) (n cap:Nat) (l:List Ct) (w:World) (h:CtsAt w a n l) (hstr:StrC l) (hn:n<=4194304) :
  Calls Tryz.prog 167 #[.slice a n cap] w fun e w'=>e=.returned (.bool (lateOkB l))∧Below w.heap.size w w':=by
 have hlen:Hid (l.length=n):=h.len
 by_cases h2:n<=200
 ·have hfin:Hid (lateOkB l=(l.drop 0).all lateB):=by show _=_;simp [lateOkB,hlen.out,h2]
  go_enter Tryz.func167,Tryz.ntmps167
  go_wp2_with fail
  go_loopw [10] (fun ix wr=>∃ (k:Nat),k<=n∧ix=.int .i64 k∧Hid (lateOkB l=(l.drop k).all lateB)∧Below w.heap.size w wr) (fun ix _=>n-(intOf ix).toNat)
  case atStart=>exact ⟨0,Nat.zero_le _,rfl,hfin,Below.refl _ _⟩
  case round=>
   obtain ⟨k,hk,rfl,hI,hB⟩:=hrel
   by_cases hlt:k<n
   ·obtain ⟨b,o,p,rfl,hp,c0,c1,c2,c3⟩:=az_ (h.below hB) hlt
    have hd:Hid (l.drop k=p::l.drop (k+1)):=aj_ hp
    have hsz:=hstr.at hp
    clear hp
    have hwr:=hB.size
    cases hdo:ownerOkB p.o
    ·go_wp2_with fail
     refine (aQ_ p.o _ hsz).mono ?_
     rintro e w1 ⟨rfl,hB1⟩
     obtain ⟨x0,x1,x2,x3,hB1',hs1⟩:=box4 hB1
     rw [hdo]
     go_wp2
     go_returns
     go_light
     refine ⟨ab_ ?_,chain hB hB1'⟩
     rw [hI.out,hd.out];simp [lateB,hdo]
    ·by_cases hok:-1000<=p.n∧p.n<=1000∧p.n≠0
     ·obtain ⟨ha1,ha2,ha3⟩:=hok
      have hz:(p.n==0)=false:=beq_eq_false_iff_ne.2 ha3
      go_wp2_with fail
      refine (aQ_ p.o _ hsz).mono ?_
      rintro e w1 ⟨rfl,hB1⟩
      obtain ⟨x0,x1,x2,x3,hB1',hs1⟩:=box4 hB1
      rw [hdo]
      go_wp2
      go_roundw
      case rel=>exact ⟨k+1,by omega,by go_num,by show _=_;rw [hI.out,hd.out];simp [lateB,hdo,ha1,ha2,ha3],chain hB hB1'⟩
      case measure=>simp [intOf];omega
     ·have hz:Hid (lateB p=false):=by
       show _=_
       by_cases hz:p.n=0
       ·simp [lateB,hz]
       ·simp [lateB,hz];omega
      go_wp2_with fail
      refine (aQ_ p.o _ hsz).mono ?_
      rintro e w1 ⟨rfl,hB1⟩
      obtain ⟨x0,x1,x2,x3,hB1',hs1⟩:=box4 hB1
      rw [hdo]
      cases hz':(p.n==0)
      all_goals (have hzz:=hz';simp at hzz)
      all_goals go_wp2
      all_goals go_returns
      all_goals go_light
      all_goals refine ⟨ab_ ?_,chain hB hB1'⟩
      all_goals (rw [hI.out,hd.out];simp [hz.out])
   ·obtain rfl:k=n:=by omega
    go_wp2
    go_returns
    go_light
    refine ⟨ab_ ?_,hB⟩
    rw [hI.out,List.drop_of_length_le (Nat.le_of_eq hlen.out)];rfl
 ·have hfin:Hid (lateOkB l=false):=by show _=_;have:=hlen.out;simp [lateOkB];omega
  go_enter Tryz.func167,Tryz.ntmps167
  go_wp2
  go_returns
  go_light
  exact ⟨ab_ hfin.out.symm,Below.refl _ _⟩
theorem c1_ (a:Option Addr) (n cap:Nat) (l:List Ct) (w:World) (h:CtsAt w a n l) (hstr:StrC l) (hn:n<=4194304) :
  Calls Tryz.prog 182 #[.slice a n cap] w fun e w'=>e=.returned (.bool (lateOkB l))∧Below w.heap.size w w':=by
 have hlen:Hid (l.length=n):=h.len
 by_cases h2:n<=200
 ·have hfin:Hid (lateOkB l=(l.drop 0).all lateB):=by show _=_;simp [lateOkB,hlen.out,h2]
  go_enter Tryz.func182,Tryz.ntmps182
  go_wp2_with fail
  go_loopw [3] (fun ix wr=>∃ (k:Nat),k<=n∧ix=.int .i64 k∧Hid (lateOkB l=(l.drop k).all lateB)∧Below w.heap.size w wr) (fun ix _=>n-(intOf ix).toNat)
  case atStart=>exact ⟨0,Nat.zero_le _,rfl,hfin,Below.refl _ _⟩
  case round=>
   obtain ⟨k,hk,rfl,hI,hB⟩:=hrel
   by_cases hlt:k<n
   ·obtain ⟨b,o,p,rfl,hp,c0,c1,c2,c3⟩:=az_ (h.below hB) hlt
    have hd:Hid (l.drop k=p::l.drop (k+1)):=aj_ hp
    have hsz:=hstr.at hp
    clear hp
    have hwr:=hB.size
    cases hdo:ownerOkB p.o
    ·go_wp2_with fail
     refine (aR_ p.o _ hsz).mono ?_
     rintro e w1 ⟨rfl,hB1⟩
     rw [hdo]
     go_wp2
     go_returns
     go_light
     refine ⟨ab_ ?_,chain hB hB1⟩
     rw [hI.out,hd.out];simp [lateB,hdo]
    ·cases hii:(decide (-1000<=p.n)&&decide (p.n<=1000))
     ·go_wp2_with fail
      refine (aR_ p.o _ hsz).mono ?_
      rintro e w1 ⟨rfl,hB1⟩
      rw [hdo]
      have e3:=bcell hB1 c3
      go_wp2_with fail
      refine (ao_ _ _ _ _).mono ?_
      rintro e w2 ⟨rfl,rfl⟩
      rw [hii]
      go_wp2
      go_returns
      go_light
      refine ⟨ab_ ?_,chain hB hB1⟩
      rw [hI.out,hd.out];simp only [List.all_cons,lateB,hdo,Bool.true_and,hii,Bool.false_and]
     ·cases hz:(p.n==0)
      all_goals
       go_wp2_with fail
       refine (aR_ p.o _ hsz).mono ?_
       rintro e w1 ⟨rfl,hB1⟩
       rw [hdo]
       have e3:=bcell hB1 c3
       go_wp2_with fail
       refine (ao_ _ _ _ _).mono ?_
       rintro e w2 ⟨rfl,rfl⟩
       rw [hii]
       go_wp2
      ·go_roundw
       case rel=>exact ⟨k+1,by omega,by go_num,by show _=_;rw [hI.out,hd.out];simp only [List.all_cons,lateB,hdo,Bool.true_and,hii,hz,Bool.not_false],chain hB hB1⟩
       case measure=>simp [intOf];omega
      ·go_returns
       go_light
       refine ⟨ab_ ?_,chain hB hB1⟩
       rw [hI.out,hd.out];simp only [List.all_cons,lateB,hdo,Bool.true_and,hii,hz,Bool.not_true,Bool.false_and]
   ·obtain rfl:k=n:=by omega
    go_wp2
    go_returns
    go_light
    refine ⟨ab_ ?_,hB⟩
    rw [hI.out,List.drop_of_length_le (Nat.le_of_eq hlen.out)];rfl
 ·have hfin:Hid (lateOkB l=false):=by show _=_;have:=hlen.out;simp [lateOkB];omega
  go_enter Tryz.func182,Tryz.ntmps182
  go_wp2
  go_returns
  go_light
  exact ⟨ab_ hfin.out.symm,Below.refl _ _⟩
def refB (c:Ct):Bool:=ownerOkB c.o&&decide (1<=c.n)&&decide (c.n<=1000)
def rgo:Option Ct->List Ct->Bool
 |_,[]=>true
 |none,c::r=>refB c&&rgo (some c) r
 |some q,c::r=>refB c&&owLt q.o c.o&&rgo (some c) r
def refsOkB (l:List Ct):Bool:=decide (l.length<=200)&&rgo none l
/-- The count ahead of the k-th. -/
def aheadC (l:List Ct) (k:Nat):Option Ct:=if k=0 then none else l[k-1]?
theorem eV_ (l:List Ct):aheadC l 0=none:=rfl
theorem a8_ (l:List Ct) (k:Nat):aheadC l (k+1)=l[k]?:=by simp [aheadC]
theorem cf_ (a:Option Addr) (n cap:Nat) (l:List Ct) (w:World) (h:CtsAt w a n l) (hstr:StrC l) (hn:n<=4194304) :
  Calls Tryz.prog 166 #[.slice a n cap] w fun e w'=>e=.returned (.bool (refsOkB l))∧Below w.heap.size w w':=by
 have hlen:Hid (l.length=n):=h.len
 by_cases h2:n<=200
 ·have hfin:Hid (refsOkB l=rgo (aheadC l 0) (l.drop 0)):=by show _=_;simp [refsOkB,hlen.out,h2,aheadC]
  go_enter Tryz.func166,Tryz.ntmps166
  go_wp2_with fail
  go_loopw [10] (fun ix wr=>∃ (k:Nat),k<=n∧ix=.int .i64 k∧Hid (refsOkB l=rgo (aheadC l k) (l.drop k))∧Below w.heap.size w wr) (fun ix _=>n-(intOf ix).toNat)
  case atStart=>exact ⟨0,Nat.zero_le _,rfl,hfin,Below.refl _ _⟩
  case round=>
   obtain ⟨k,hk,rfl,hI,hB⟩:=hrel
   by_cases hlt:k<n
   ·obtain ⟨b,o,p,rfl,hp,c0,c1,c2,c3⟩:=az_ (h.below hB) hlt
    have hd:Hid (l.drop k=p::l.drop (k+1)):=aj_ hp
    have hq:Hid (l[k]?=some p):=hp
    have hsz:=hstr.at hp
    clear hp
    have hwr:=hB.size
    cases hdo:ownerOkB p.o
    ·go_wp2_with fail
     refine (aQ_ p.o _ hsz).mono ?_
     rintro e w1 ⟨rfl,hB1⟩
     obtain ⟨x0,x1,x2,x3,hB1',hs1⟩:=box4 hB1
     rw [hdo]
     go_wp2
     go_returns
     go_light
     refine ⟨ab_ ?_,chain hB hB1'⟩
     rw [hI.out,hd.out];cases aheadC l k<;>simp [rgo,refB,hdo]
    ·by_cases hok:1<=p.n∧p.n<=1000
     ·obtain ⟨ha1,ha2⟩:=hok
      have hrb:Hid (refB p=true):=by show _=_;simp [refB,hdo,ha1,ha2]
      rcases k with _ | j
      ·simp only [Nat.zero_mul,Nat.add_zero] at c0 c1 c2 c3
       go_wp2_with fail
       refine (aQ_ p.o _ hsz).mono ?_
       rintro e w1 ⟨rfl,hB1⟩
       obtain ⟨x0,x1,x2,x3,hB1',hs1⟩:=box4 hB1
       rw [hdo]
       go_wp2_with fail
       go_quiet (fail)
       go_wp2
       go_roundw
       case rel=>exact ⟨1,by omega,by go_num,by show _=_;rw [hI.out,hd.out,eV_,a8_,hq.out];simp [rgo,hrb.out],chain hB (chain hB1' (drewNB _ _))⟩
       case measure=>simp [intOf];omega
      ·obtain ⟨b',o',q,hbo,hq',d0,d1,d2,d3⟩:=az_ (h.below hB) (k:=j) (by omega)
       obtain ⟨rfl,rfl⟩:b=b'∧o=o':=by simpa using hbo
       have hah:Hid (aheadC l (j+1)=some q):=by show _=_;rw [a8_];exact hq'
       clear hq' hbo
       cases hgo:owLt q.o p.o
       all_goals
        go_wp2_with fail
        refine (aQ_ p.o _ hsz).mono ?_
        rintro e w1 ⟨rfl,hB1⟩
        obtain ⟨x0,x1,x2,x3,hB1',hs1⟩:=box4 hB1
        rw [hdo]
        replace d0:=bcell hB1' d0
        replace d1:=bcell hB1' d1
        replace d2:=bcell hB1' d2
        have hj:(0:Int)<(j:Int)+1:=by omega
        have hj1:(j:Int)<n:=by omega
        have hj2:(0:Int)<=j:=by omega
        have hw1:IntKind.i64.wrap ((j:Int)+1-1)=(j:Int):=by rw [IntKind.wrap_i64];omega
        have hw2:IntKind.i64.wrap (j:Int)=(j:Int):=by rw [IntKind.wrap_i64];omega
        clear c0 c1 c2 c3
        go_wp2_with fail
        have g0:=gcell x0
        have g1:=gcell x1
        have g2:=gcell x2
        have g3:=gcell d0
        have g4:=gcell d1
        have g5:=gcell d2
        have hne:=aq_ w1
        refine aa_ (by kernel_rfl) (by kernel_rfl) ?_
        repeat (go_big_quiet_step (first | (go_at_call 205;have qq:=fb_ q.o p.o;rw [hgo] at qq;exact ag_ (qq _))))
        refine wpQuiet_nil ?_
        intro w2 hx
        have hB2:=ae_ hx
        clear hx
        go_wp2
       ·go_returns
        go_light
        refine ⟨ab_ ?_,chain hB (chain hB1' hB2)⟩
        rw [hI.out,hd.out,hah.out];simp [rgo,hgo]
       ·go_roundw
        case rel=>exact ⟨j+2,by omega,by go_num,by show _=_;rw [hI.out,hd.out,hah.out,a8_,hq.out];simp [rgo,hgo,hrb.out],chain hB (chain hB1' hB2)⟩
        case measure=>simp [intOf];omega
     ·have hz:Hid (refB p=false):=by show _=_;simp [refB];omega
      go_wp2_with fail
      refine (aQ_ p.o _ hsz).mono ?_
      rintro e w1 ⟨rfl,hB1⟩
      obtain ⟨x0,x1,x2,x3,hB1',hs1⟩:=box4 hB1
      rw [hdo]
      go_wp2
      all_goals go_returns
      all_goals go_light
      all_goals refine ⟨ab_ ?_,chain hB hB1'⟩
      all_goals (rw [hI.out,hd.out];cases aheadC l k<;>simp [rgo,hz.out])
   ·obtain rfl:k=n:=by omega
    go_wp2
    go_returns
    go_light
    refine ⟨ab_ ?_,hB⟩
    rw [hI.out,List.drop_of_length_le (Nat.le_of_eq hlen.out)];cases aheadC l k<;>rfl
 ·have hfin:Hid (refsOkB l=false):=by show _=_;have:=hlen.out;simp [refsOkB];omega
  go_enter Tryz.func166,Tryz.ntmps166
  go_wp2
  go_returns
  go_light
  exact ⟨ab_ hfin.out.symm,Below.refl _ _⟩
theorem a9_ (a:Option Addr) (n cap:Nat) (l:List Ct) (w:World) (h:CtsAt w a n l) (hstr:StrC l) (hn:n<=4194304) :
  Calls Tryz.prog 181 #[.slice a n cap] w fun e w'=>e=.returned (.bool (refsOkB l))∧Below w.heap.size w w':=by
 have hlen:Hid (l.length=n):=h.len
 by_cases h2:n<=200
 ·have hfin:Hid (refsOkB l=rgo (aheadC l 0) (l.drop 0)):=by show _=_;simp [refsOkB,hlen.out,h2,aheadC]
  go_enter Tryz.func181,Tryz.ntmps181
  go_wp2_with fail
  go_loopw [3] (fun ix wr=>∃ (k:Nat),k<=n∧ix=.int .i64 k∧Hid (refsOkB l=rgo (aheadC l k) (l.drop k))∧Below w.heap.size w wr) (fun ix _=>n-(intOf ix).toNat)
  case atStart=>exact ⟨0,Nat.zero_le _,rfl,hfin,Below.refl _ _⟩
  case round=>
   obtain ⟨k,hk,rfl,hI,hB⟩:=hrel
   by_cases hlt:k<n
   ·obtain ⟨b,o,p,rfl,hp,c0,c1,c2,c3⟩:=az_ (h.below hB) hlt
    have hd:Hid (l.drop k=p::l.drop (k+1)):=aj_ hp
    have hq:Hid (l[k]?=some p):=hp
    have hsz:=hstr.at hp
    clear hp
    have hwr:=hB.size
    have hk1:(k:Int)<n:=by omega
    have hk2:(0:Int)<=k:=by omega
    cases hdo:ownerOkB p.o
    ·go_wp2_with fail
     have g0:=gcell c0
     have g1:=gcell c1
     have g2:=gcell c2
     have g3:=gcell c3
     have hne:=aq_ wr
     refine aa_ (by kernel_rfl) (by kernel_rfl) ?_
     repeat (go_big_quiet_step (first | (go_at_call 213;have qq:=fun w=>aR_ p.o w hsz;rw [hdo] at qq;exact ag_ (qq _))))
     refine wpQuiet_nil ?_
     intro w2 hx
     have hB2:=ae_ hx
     clear hx
     go_wp2
     go_returns
     go_light
     refine ⟨ab_ ?_,chain hB hB2⟩
     rw [hI.out,hd.out];cases aheadC l k<;>simp [rgo,refB,hdo]
    ·cases hii:(decide (1<=p.n)&&decide (p.n<=1000))
     ·have hz:Hid (refB p=false):=by show _=_;simp only [refB,hdo,Bool.true_and,hii]
      go_wp2_with fail
      have g0:=gcell c0
      have g1:=gcell c1
      have g2:=gcell c2
      have g3:=gcell c3
      have hne:=aq_ wr
      refine aa_ (by kernel_rfl) (by kernel_rfl) ?_
      repeat (go_big_quiet_step (first | (go_at_call 213;have qq:=fun w=>aR_ p.o w hsz;rw [hdo] at qq;exact ag_ (qq _)) | (go_at_call 54;have qq:=ao_ p.n 1 1000;rw [hii] at qq;exact ah_ (qq _))))
      refine wpQuiet_nil ?_
      intro w2 hx
      have hB2:=ae_ hx
      clear hx
      go_wp2
      go_returns
      go_light
      refine ⟨ab_ ?_,chain hB hB2⟩
      rw [hI.out,hd.out];cases aheadC l k<;>simp [rgo,hz.out]
     ·have hrb:Hid (refB p=true):=by show _=_;simp only [refB,hdo,Bool.true_and,hii]
      rcases k with _ | j
      ·simp only [Nat.zero_mul,Nat.add_zero] at c0 c1 c2 c3
       go_wp2_with fail
       have g0:=gcell c0
       have g1:=gcell c1
       have g2:=gcell c2
       have g3:=gcell c3
       have hne:=aq_ wr
       refine aa_ (by kernel_rfl) (by kernel_rfl) ?_
       repeat (go_big_quiet_step (first | (go_at_call 213;have qq:=fun w=>aR_ p.o w hsz;rw [hdo] at qq;exact ag_ (qq _)) | (go_at_call 54;have qq:=ao_ p.n 1 1000;rw [hii] at qq;exact ah_ (qq _))))
       refine wpQuiet_nil ?_
       intro w2 hx
       have hB2:=ae_ hx
       clear hx
       go_wp2
       go_roundw
       case rel=>exact ⟨1,by omega,by go_num,by show _=_;rw [hI.out,hd.out,eV_,a8_,hq.out];simp [rgo,hrb.out],chain hB hB2⟩
       case measure=>simp [intOf];omega
      ·obtain ⟨b',o',q,hbo,hq',d0,d1,d2,d3⟩:=az_ (h.below hB) (k:=j) (by omega)
       obtain ⟨rfl,rfl⟩:b=b'∧o=o':=by simpa using hbo
       have hah:Hid (aheadC l (j+1)=some q):=by show _=_;rw [a8_];exact hq'
       clear hq' hbo d3
       cases hgo:owLt q.o p.o
       all_goals
        go_wp2_with fail
        have g0:=gcell c0
        have g1:=gcell c1
        have g2:=gcell c2
        have g3:=gcell c3
        have g4:=gcell d0
        have g5:=gcell d1
        have g6:=gcell d2
        have hne:=aq_ wr
        refine aa_ (by kernel_rfl) (by kernel_rfl) ?_
        repeat (go_big_quiet_step (first | (go_at_call 213;have qq:=fun w=>aR_ p.o w hsz;rw [hdo] at qq;exact ag_ (qq _)) | (go_at_call 54;have qq:=ao_ p.n 1 1000;rw [hii] at qq;exact ah_ (qq _)) | (go_at_call 214;have qq:=au_ q.o p.o;rw [hgo] at qq;exact ag_ (qq _))))
        refine wpQuiet_nil ?_
        intro w2 hx
        have hB2:=ae_ hx
        clear hx
        go_wp2
       ·go_returns
        go_light
        refine ⟨ab_ ?_,chain hB hB2⟩
        rw [hI.out,hd.out,hah.out];simp [rgo,hgo]
       ·go_roundw
        case rel=>exact ⟨j+2,by omega,by go_num,by show _=_;rw [hI.out,hd.out,hah.out,a8_,hq.out];simp [rgo,hgo,hrb.out],chain hB hB2⟩
        case measure=>simp [intOf];omega
   ·obtain rfl:k=n:=by omega
    go_wp2
    go_returns
    go_light
    refine ⟨ab_ ?_,hB⟩
    rw [hI.out,List.drop_of_length_le (Nat.le_of_eq hlen.out)];cases aheadC l k<;>rfl
 ·have hfin:Hid (refsOkB l=false):=by show _=_;have:=hlen.out;simp [refsOkB];omega
  go_enter Tryz.func181,Tryz.ntmps181
  go_wp2
  go_returns
  go_light
  exact ⟨ab_ hfin.out.symm,Below.refl _ _⟩
def flushedO (refs late:List Ct):Option (List Ct):=if refsOkB refs=true∧lateOkB late=true then (if refsOkB (sumC refs late)=true then some (sumC refs late) else none) else none
theorem dL_ {l:List Ct} (h:lateOkB l=true):l.length<=200∧∀ x∈l,-1000<=x.n∧x.n<=1000:=by
 simp only [lateOkB,Bool.and_eq_true,decide_eq_true_eq,List.all_eq_true] at h
 refine ⟨h.1,fun x hx=>?_⟩
 have:=h.2 x hx
 simp only [lateB,Bool.and_eq_true,decide_eq_true_eq] at this
 exact ⟨this.1.1.2,this.1.2⟩
theorem iX_ {c:Ct} (hc:c.o.f.size<=9223372036854775807):∀ {l:List Ct},StrC l->StrC (addC l c)
 |[],_=>by intro x hx;simp [addC] at hx;subst hx;exact hc
 |y::r,h=>by
  have hy:=h y (by simp)
  have hr:StrC r:=fun x hx=>h x (by simp [hx])
  unfold addC
  split
  ·intro x hx
   rcases List.mem_cons.1 hx with rfl | hx
   ·exact hy
   ·exact iX_ hc hr x hx
  ·split
   ·split
    ·intro x hx
     rcases List.mem_cons.1 hx with rfl | hx
     ·exact hc
     ·exact hr x hx
    ·exact hr
   ·intro x hx
    rcases List.mem_cons.1 hx with rfl | hx
    ·exact hc
    ·exact h x hx
theorem fI_:∀ {more l:List Ct},StrC l->StrC more->StrC (sumC l more)
 |[],l,h,_=>h
 |c::r,l,h,hm=>fI_ (more:=r) (l:=addC l c) (iX_ (hm c (by simp)) h) (fun x hx=>hm x (by simp [hx]))
theorem dl_:∀ {l:List Ct} {q:Option Ct},rgo q l=true->∀ x∈l,refB x=true
 |[],_,_=>by simp
 |c::r,q,h=>by
  have h2:refB c=true∧rgo (some c) r=true:=by
   cases q
   ·simpa only [rgo,Bool.and_eq_true] using h
   ·simp only [rgo,Bool.and_eq_true] at h;exact ⟨h.1.1,h.2⟩
  intro x hx
  rcases List.mem_cons.1 hx with rfl | hx
  ·exact h2.1
  ·exact dl_ h2.2 x hx
theorem b4_ {l:List Ct} (h:refsOkB l=true):l.length<=200∧∀ x∈l,1<=x.n∧x.n<=1000:=by
 simp only [refsOkB,Bool.and_eq_true,decide_eq_true_eq] at h
 refine ⟨h.1,fun x hx=>?_⟩
 have:=dl_ h.2 x hx
 simp only [refB,Bool.and_eq_true,decide_eq_true_eq] at this
 exact ⟨this.1.2,this.2⟩
def RetCts (B:Nat) (e:Ending) (w':World):Option (List Ct)->Prop
 |none=>e=.returned (.tuple #[.slice none 0 0,.bool false])
 |some L=>∃ a n cap,e=.returned (.tuple #[.slice a n cap,.bool true])∧ResAt Ct.cs 4 134 w' B a n cap L
theorem hR_ (a:Option Addr) (n cap:Nat) (l:List Ct) (a':Option Addr) (n' cap':Nat) (more:List Ct) (w:World) (h:CtsAt w a n l) (ha1:∀ ad,a=some ad->ad.spot=none) (ha2:a=none->cap=0) (h':CtsAt w a' n' more) (hstr:StrC l) (hstr':StrC more) (hn:n<=4194304) (hn':n'<=4194304) :
  Calls Tryz.prog 117 #[.slice a n cap,.slice a' n' cap'] w fun e w'=>RetCts w.heap.size e w' (flushedO l more)∧Below w.heap.size w w':=by
 have hlen:Hid (l.length=n):=h.len
 have hlen':Hid (more.length=n'):=h'.len
 cases hok:refsOkB l
 ·have hf:flushedO l more=none:=by simp [flushedO,hok]
  rw [hf]
  go_enter Tryz.func117,Tryz.ntmps117
  go_wp2_with fail
  refine (a9_ a n cap l _ h hstr hn).mono ?_
  rintro e w1 ⟨rfl,hB1⟩
  rw [hok]
  go_wp2
  go_returns
  go_light
  exact ⟨rfl,hB1⟩
 ·cases hok':lateOkB more
  ·have hf:flushedO l more=none:=by simp [flushedO,hok']
   rw [hf]
   go_enter Tryz.func117,Tryz.ntmps117
   go_wp2_with fail
   refine (a9_ a n cap l _ h hstr hn).mono ?_
   rintro e w1 ⟨rfl,hB1⟩
   rw [hok]
   go_wp2_with fail
   refine (c1_ a' n' cap' more _ (h'.below hB1) hstr' hn').mono ?_
   rintro e w2 ⟨rfl,hB2⟩
   rw [hok']
   have hB3:=chain hB1 hB2
   go_wp2
   go_returns
   go_light
   exact ⟨rfl,hB3⟩
  ·obtain ⟨hl,hb⟩:=b4_ hok
   obtain ⟨hl2,hb2⟩:=dL_ hok'
   have hl':n<=200:=by rw [<-hlen.out];exact hl
   have hl2':n'<=200:=by rw [<-hlen'.out];exact hl2
   have hss:=fI_ hstr hstr'
   cases hok3:refsOkB (sumC l more)
   ·have hf:flushedO l more=none:=by simp [flushedO,hok,hok',hok3]
    rw [hf]
    clear hf
    go_enter Tryz.func117,Tryz.ntmps117
    go_wp2_with fail
    refine (a9_ a n cap l _ h hstr hn).mono ?_
    rintro e w1 ⟨rfl,hB1⟩
    rw [hok]
    go_wp2_with fail
    refine (c1_ a' n' cap' more _ (h'.below hB1) hstr' hn').mono ?_
    rintro e w2 ⟨rfl,hB2⟩
    rw [hok']
    have hB3:=chain hB1 hB2
    go_wp2_with fail
    refine (fH_ a n cap l a' n' cap' more w2 (h.below hB3) ha1 ha2 (h'.below hB3) hl' hl2' (fun x hx=>by have:=hb x hx;omega) hb2).mono ?_
    rintro e w4 ⟨⟨a2,n2,cap2,rfl,hn2,R2⟩,hB4⟩
    have hB5:=chain hB3 hB4
    replace R2:=R2.mono hB3.size
    go_wp2_with fail
    refine (a9_ a2 n2 cap2 (sumC l more) _ R2.sl hss (by omega)).mono ?_
    rintro e w6 ⟨rfl,hB6⟩
    rw [hok3]
    have hB7:=chain hB5 hB6
    replace R2:=R2.below hB6
    go_wp2
    go_returns
    go_light
    exact ⟨rfl,hB7⟩
   ·have hf:flushedO l more=some (sumC l more):=by simp [flushedO,hok,hok',hok3]
    rw [hf]
    clear hf
    go_enter Tryz.func117,Tryz.ntmps117
    go_wp2_with fail
    refine (a9_ a n cap l _ h hstr hn).mono ?_
    rintro e w1 ⟨rfl,hB1⟩
    rw [hok]
    go_wp2_with fail
    refine (c1_ a' n' cap' more _ (h'.below hB1) hstr' hn').mono ?_
    rintro e w2 ⟨rfl,hB2⟩
    rw [hok']
    have hB3:=chain hB1 hB2
    go_wp2_with fail
    refine (fH_ a n cap l a' n' cap' more w2 (h.below hB3) ha1 ha2 (h'.below hB3) hl' hl2' (fun x hx=>by have:=hb x hx;omega) hb2).mono ?_
    rintro e w4 ⟨⟨a2,n2,cap2,rfl,hn2,R2⟩,hB4⟩
    have hB5:=chain hB3 hB4
    replace R2:=R2.mono hB3.size
    go_wp2_with fail
    refine (a9_ a2 n2 cap2 (sumC l more) _ R2.sl hss (by omega)).mono ?_
    rintro e w6 ⟨rfl,hB6⟩
    rw [hok3]
    have hB7:=chain hB5 hB6
    replace R2:=R2.below hB6
    go_wp2
    go_returns
    go_light
    exact ⟨⟨a2,n2,cap2,rfl,R2⟩,hB7⟩
theorem Blk.other {w:World} {b:Nat} {c:Array Value} {t:TypeId} (h:Blk w b c t) (p:Addr) (v:Value) (hp:b≠p.block):Blk (w.setCell p v) b c t:=by
 unfold Blk at *;rw [Below.heap_setCell _ _ _ _ (by simpa using hp)];exact h
theorem hS_ (p q:Ow) (w:World) :
  Calls Tryz.prog 172 #[.agg #[.int .i64 p.a,.int .i64 p.v,.string p.f],.agg #[.int .i64 q.a,.int .i64 q.v,.string q.f]] w fun e w'=>e=.returned (.bool (owEq p q))∧Below w.heap.size w w':=by
 obtain ⟨a,v,f⟩:=p
 obtain ⟨b,u,g⟩:=q
 go_enter Tryz.func172,Tryz.ntmps172
 go_wp2
 all_goals go_returns
 all_goals go_light
 all_goals refine ⟨?_,by go_grown⟩
 all_goals simp_all [owEq]
def eqCt (p q:Ct):Bool:=owEq p.o q.o&&p.n==q.n
theorem fJ_ (p q:Ct) (w:World) :
  Calls Tryz.prog 108 #[.agg #[.int .i64 p.o.a,.int .i64 p.o.v,.string p.o.f,.int .i64 p.n],.agg #[.int .i64 q.o.a,.int .i64 q.o.v,.string q.o.f,.int .i64 q.n]] w fun e w'=>e=.returned (.bool (eqCt p q))∧Below w.heap.size w w':=by
 cases he:owEq p.o q.o
 all_goals
  have hfin:Hid (eqCt p q=(owEq p.o q.o&&p.n==q.n)):=rfl
  generalize eqCt p q=R at *
  obtain ⟨⟨a,v,f⟩,n⟩:=p
  obtain ⟨⟨b,u,g⟩,m⟩:=q
  simp only at *
  go_enter Tryz.func108,Tryz.ntmps108
  go_wp2_with fail
  refine (hS_ ⟨a,v,f⟩ ⟨b,u,g⟩ _).mono ?_
  rintro e w1 ⟨rfl,hB1⟩
  rw [he]
  have c3:w1.cell? ⟨w.heap.size,3,none⟩=some (.int .i64 n):=bcell hB1 (acell _ (by simp))
  have d3:w1.cell? ⟨w.heap.size+1,3,none⟩=some (.int .i64 m):=bcell hB1 (by simp)
  have hB2:Below w.heap.size w w1:=chain (by go_grown) hB1
  clear hB1
 ·go_wp2
  go_returns
  go_light
  exact ⟨ab_ (by rw [hfin.out,he];rfl),hB2⟩
 ·go_wp2
  all_goals go_returns
  all_goals go_light
  all_goals refine ⟨ab_ ?_,hB2⟩
  all_goals (rw [hfin.out,he];simp_all)
/-- A list of counts that is within the budget. -/
def SmallC (n:Nat) (l:List Ct):Prop:=n<=1048576∧∀ e∈l,e.o.f.size<=1048576
theorem SmallC.strs {n:Nat} {l:List Ct} (h:SmallC n l):StrC l:=fun e he=>by have:=h.2 e he;omega
def eqCts:List Ct->List Ct->Bool
 |[],[]=>true
 |p::r,q::s=>eqCt p q&&eqCts r s
 |_,_=>false
theorem fK_ (l:List Ct):eqCts l l=true:=by
 induction l with
 |nil=>rfl
 |cons p r ih=>simp [eqCts,eqCt,owEq,ih]
theorem eq_ {l:List Ct}:∀ {m:List Ct},l.length≠m.length->eqCts l m=false:=by
 induction l with
 |nil=>intro m h;cases m<;>simp [eqCts] at *
 |cons p r ih=>intro m h;cases m<;>simp [eqCts] at *;exact fun _=>ih h
theorem cU_ (a:Option Addr) (n cap:Nat) (l:List Ct) (a':Option Addr) (n' cap':Nat) (m:List Ct) (w:World) (h:CtsAt w a n l) (h':CtsAt w a' n' m) (hn:n<=4194304) (hn':n'<=4194304) :
  Calls Tryz.prog 44 #[.slice a n cap,.slice a' n' cap'] w fun e w'=>e=.returned (.bool (eqCts l m))∧Below w.heap.size w w':=by
 have hlen:Hid (l.length=n):=h.len
 have hlen':Hid (m.length=n'):=h'.len
 by_cases hne:n=n'
 ·subst hne
  have hbn:((n:Int) != (n:Int))=false:=by simp
  go_enter Tryz.func44,Tryz.ntmps44
  go_wp2_with fail
  go_loopw [5] (fun ix wr=>∃ (k:Nat),k<=n∧ix=.int .i64 k∧Hid (eqCts l m=eqCts (l.drop k) (m.drop k))∧Below w.heap.size w wr) (fun ix _=>n-(intOf ix).toNat)
  case atStart=>exact ⟨0,Nat.zero_le _,rfl,rfl,Below.refl _ _⟩
  case round=>
   obtain ⟨k,hk,rfl,hI,hB⟩:=hrel
   by_cases hlt:k<n
   ·obtain ⟨b,o,p,rfl,hp,c0,c1,c2,c3⟩:=az_ (h.below hB) hlt
    obtain ⟨b',o',q,rfl,hq,d0,d1,d2,d3⟩:=az_ (h'.below hB) hlt
    have hd:Hid (l.drop k=p::l.drop (k+1)):=aj_ hp
    have hd':Hid (m.drop k=q::m.drop (k+1)):=aj_ hq
    clear hp hq
    have hk1:(k:Int)<n:=by omega
    have hk2:(0:Int)<=k:=by omega
    cases hpq:eqCt p q
    all_goals
     go_wp2_with fail
     have g0:=gcell c0
     have g1:=gcell c1
     have g2:=gcell c2
     have g3:=gcell c3
     have g4:=gcell d0
     have g5:=gcell d1
     have g6:=gcell d2
     have g7:=gcell d3
     have hne:=aq_ wr
     refine aa_ (by kernel_rfl) (by kernel_rfl) ?_
     repeat (go_big_quiet_step (first | (go_at_call 108;have qq:=fJ_ p q;rw [hpq] at qq;exact ag_ (qq _))))
     refine wpQuiet_nil ?_
     intro w2 hx
     have hB2:=ae_ hx
     clear hx
     go_wp2
    ·go_returns
     go_light
     refine ⟨ab_ ?_,chain hB hB2⟩
     rw [hI.out,hd.out,hd'.out];simp only [eqCts,hpq,Bool.false_and]
    ·go_roundw
     case rel=>exact ⟨k+1,by omega,by go_num,by show _=_;rw [hI.out,hd.out,hd'.out];simp only [eqCts,hpq,Bool.true_and],chain hB hB2⟩
     case measure=>simp [intOf];omega
   ·obtain rfl:k=n:=by omega
    go_wp2
    go_returns
    go_light
    refine ⟨ab_ ?_,hB⟩
    rw [hI.out,List.drop_of_length_le (Nat.le_of_eq hlen.out),List.drop_of_length_le (Nat.le_of_eq hlen'.out)];rfl
 ·have hbn:((n:Int) != (n':Int))=true:=by simp;omega
  go_enter Tryz.func44,Tryz.ntmps44
  go_wp2
  go_returns
  go_light
  refine ⟨ab_ ?_,Below.refl _ _⟩
  rw [eq_ (by rw [hlen.out,hlen'.out];exact hne)]
end Go.Proofs.YtigldeccfpkdmaaGreatDoor
