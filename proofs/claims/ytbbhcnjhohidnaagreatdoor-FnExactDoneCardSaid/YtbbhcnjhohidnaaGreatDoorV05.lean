/- Joined, Laid of the program. -/
import Derived.Test.YtbbhcnjhohidnaaGreatDoorV04
set_option maxHeartbeats 20000000
set_option maxRecDepth 100000
namespace Go.Proofs.YtbbhcnjhohidnaaGreatDoor
section
open Go Go.RowKit Go.BigFrame Tryz
variable{size:Int}{k:Nat}{w:World}
theorem aq_ (d:ByteArray)(w:World)(hd:d.size<=9223372036854775807):
  Calls prog 100 #[.string d] w fun e w'=>e=.returned (.bool (nameB d))∧w'=w:=by
 by_cases h1:1<=d.size∧d.size<=8
 ·have ha:Hid (nameB d=(d.data.toList.drop 0).all letB):=by show _=_;simp[nameB,h1]
  obtain⟨h1,hg⟩:=h1;go_enter func100,ntmps100
  go_wp2_with fail
  go_loop [3] (fun ix=>∃ (k:Nat),k<=d.size∧ix=.int .i64 k∧Hid (nameB d=(d.data.toList.drop k).all letB)) (fun ix=>d.size-(intOf ix).toNat)
  case atStart=>exact⟨0,Zg _,rfl,ha⟩
  case round=>
   obtain⟨k,hk,rfl,hI⟩:=hrel;by_cases hlt:k<d.size
   ·have hs:Hid (d.data.toList.drop k=d[k]::d.data.toList.drop (k+1)):=fH_ d k hlt
    cases hc:letB d[k]
    ·have hb:(d[k].toNat:Int)<97∨122<(d[k].toNat:Int):=by simp[letB] at hc;omega
     go_wp2
     all_goals go_returns
     all_goals go_light
     all_goals (refine⟨ac_ ?_,rfl⟩;rw[hI.out,hs.out];simp[hc])
    ·have hb:97<=(d[k].toNat:Int)∧(d[k].toNat:Int)<=122:=by simp[letB] at hc;omega
     obtain⟨he,hf⟩:=hb;go_wp2;go_round
     case rel=>exact⟨k+1,by omega,by go_num,by show _=_;rw[hI.out,hs.out];simp[hc]⟩
     case measure=>simp[intOf];omega
   ·obtain rfl:k=d.size:=by omega
    go_wp2;go_returns;go_light;refine⟨ac_ ?_,rfl⟩;rw[hI.out,Ze (by simp)];rfl
 ·have ha:Hid (nameB d=false):=by show _=_;simp[nameB];omega
  go_enter func100,ntmps100;go_wp2
  all_goals go_returns
  all_goals go_light
  all_goals exact⟨ac_ ha.out.symm,rfl⟩
end
section
open Go Go.RowKit Go.BigFrame Tryz
variable{c:Array Value}{l:List Ct}{t:TypeId}{u x y z:Value}{w w1:World}
def ownerOkB (o:Ow):Bool:=decide (1<=o.a)&&decide (o.a<=400)&&decide (1<=o.v)&&decide (o.v<=1000000000)&&nameB o.f
theorem bp_ (p:Ow)(w:World)(hd:p.f.size<=9223372036854775807):
  Calls prog 171 #[.agg #[.int .i64 p.a,.int .i64 p.v,.string p.f]] w fun e w'=>e=.returned (.bool (ownerOkB p))∧Below w.heap.size w w':=by
 by_cases h:1<=p.a∧p.a<=400∧1<=p.v∧p.v<=1000000000
 ·have ha:Hid (ownerOkB p=nameB p.f):=by show _=_;simp[ownerOkB,h]
  generalize ownerOkB p=R at *;obtain⟨a,v,f⟩:=p;simp only at *;obtain⟨h1,h2,h3,h4⟩:=h;go_enter func171,ntmps171
  go_wp2_with fail
  refine (bT_ f _ hd).mono ?_;rintro e w1 ⟨rfl,rfl⟩;go_wp2;go_returns;go_light;exact⟨ac_ ha.out.symm,by go_grown⟩
 ·have ha:Hid (ownerOkB p=false):=by show _=_;simp[ownerOkB];omega
  generalize ownerOkB p=R at *;obtain⟨a,v,f⟩:=p;simp only at *;go_enter func171,ntmps171;go_wp2
  all_goals go_returns
  all_goals go_light
  all_goals exact⟨ac_ ha.out.symm,by go_grown⟩
theorem bq_ (p:Ow)(w:World)(hd:p.f.size<=9223372036854775807):
  Calls prog 148 #[.agg #[.int .i64 p.a,.int .i64 p.v,.string p.f]] w fun e w'=>e=.returned (.bool (ownerOkB p))∧Below w.heap.size w w':=by
 have ha:Hid (ownerOkB p=((decide (1<=p.a)&&decide (p.a<=400))&&(decide (1<=p.v)&&decide (p.v<=1000000000))&&nameB p.f)):=by show _=_;simp[ownerOkB,ZO]
 generalize ownerOkB p=R at *;obtain⟨a,v,f⟩:=p;simp only at *
 cases h1:(decide (1<=a)&&decide (a<=400))
 ·go_enter func148,ntmps148
  go_wp2_with fail
  refine (ai_ _ _ _ _).mono ?_;rintro e w1 ⟨rfl,rfl⟩;rw[h1];go_wp2;go_returns;go_light;exact⟨ac_ (by rw[ha.out,h1];rfl),by go_grown⟩
 ·cases h2:(decide (1<=v)&&decide (v<=1000000000))
  ·go_enter func148,ntmps148
   go_wp2_with fail
   refine (ai_ _ _ _ _).mono ?_;rintro e w1 ⟨rfl,rfl⟩;rw[h1]
   go_wp2_with fail
   refine (ai_ _ _ _ _).mono ?_;rintro e w1 ⟨rfl,rfl⟩;rw[h2];go_wp2;go_returns;go_light;exact⟨ac_ (by rw[ha.out,h1,h2];rfl),by go_grown⟩
  ·go_enter func148,ntmps148
   go_wp2_with fail
   refine (ai_ _ _ _ _).mono ?_;rintro e w1 ⟨rfl,rfl⟩;rw[h1]
   go_wp2_with fail
   refine (ai_ _ _ _ _).mono ?_;rintro e w1 ⟨rfl,rfl⟩;rw[h2]
   go_wp2_with fail
   refine (aq_ f _ hd).mono ?_;rintro e w1 ⟨rfl,rfl⟩;go_wp2;go_returns;go_light;exact⟨ac_ (by rw[ha.out,h1,h2];rfl),by go_grown⟩
def StrC (l:List Ct):Prop:=∀ c∈l,c.o.f.size<=9223372036854775807
theorem StrC.at (h:StrC l){k:Nat}{e:Ct}(he:l[k]?=some e):e.o.f.size<=9223372036854775807:=h e (Zc he)
def lateB (c:Ct):Bool:=ownerOkB c.o&&decide (-1000<=c.n)&&decide (c.n<=1000)&&!(c.n==0)
def lateOkB (l:List Ct):Bool:=decide (l.length<=200)&&l.all lateB
theorem box4 (hb:Below (w.alloc (.cells #[x,y,z,u] t)).heap.size (w.alloc (.cells #[x,y,z,u] t)) w1):
  w1.cell? ⟨w.heap.size,0,none⟩=some x∧w1.cell? ⟨w.heap.size,1,none⟩=some y∧w1.cell? ⟨w.heap.size,2,none⟩=some z∧w1.cell? ⟨w.heap.size,3,none⟩=some u∧Below w.heap.size w w1∧w.heap.size<w1.heap.size:=
 ⟨bcell hb (World.cell?_alloc_new _ _ _ 0),bcell hb (World.cell?_alloc_new _ _ _ 1),bcell hb (World.cell?_alloc_new _ _ _ 2),bcell hb (World.cell?_alloc_new _ _ _ 3),
  ((Below.refl _ _).alloc (Zd _) _).trans (hb.mono (by simp)),by have:=hb.size;simp at this;omega⟩
theorem gG_ (a:Option Addr)(n cap:Nat)(l:List Ct)(w:World)(h:CtsAt w a n l)(hstr:StrC l)(hn:n<=4194304):
  Calls prog 144 #[.slice a n cap] w fun e w'=>e=.returned (.bool (lateOkB l))∧Below w.heap.size w w':=by
 have hc:Hid (l.length=n):=h.len;by_cases h2:n<=200
 ·have hb:Hid (lateOkB l=(l.drop 0).all lateB):=by show _=_;simp[lateOkB,hc.out,h2]
  go_enter func144,ntmps144
  go_wp2_with fail
  go_loopw [10] (fun ix wr=>∃ (k:Nat),k<=n∧ix=.int .i64 k∧Hid (lateOkB l=(l.drop k).all lateB)∧Below w.heap.size w wr) (fun ix _=>n-(intOf ix).toNat)
  case atStart=>exact⟨0,Zg _,rfl,hb,Below.refl _ _⟩
  case round=>
   obtain⟨k,hk,rfl,hI,hB⟩:=hrel;by_cases hlt:k<n
   ·obtain⟨b,o,p,rfl,hp,c0,c1,c2,c3⟩:=aN_ (h.below hB) hlt;have hd:Hid (l.drop k=p::l.drop (k+1)):=al_ hp;have hg:=hstr.at hp;clear hp;have hr:=hB.size
    cases hf:ownerOkB p.o
    ·go_wp2_with fail
     refine (bp_ p.o _ hg).mono ?_;rintro e w1 ⟨rfl,he⟩;obtain⟨x0,x1,x2,x3,ha,hh⟩:=box4 he;rw[hf];go_wp2;go_returns;go_light;refine⟨ac_ ?_,chain hB ha⟩;rw[hI.out,hd.out];simp[lateB,hf]
    ·by_cases hok:-1000<=p.n∧p.n<=1000∧p.n≠0
     ·obtain⟨hq,hm,hj⟩:=hok;have hz:(p.n==0)=false:=ZV.2 hj
      go_wp2_with fail
      refine (bp_ p.o _ hg).mono ?_;rintro e w1 ⟨rfl,he⟩;obtain⟨x0,x1,x2,x3,ha,hh⟩:=box4 he;rw[hf];go_wp2;go_roundw
      case rel=>exact⟨k+1,by omega,by go_num,by show _=_;rw[hI.out,hd.out];simp[lateB,hf,hq,hm,hj],chain hB ha⟩
      case measure=>simp[intOf];omega
     ·have hz:Hid (lateB p=false):=by
       show _=_;by_cases hz:p.n=0
       ·simp[lateB,hz]
       ·simp[lateB,hz];omega
      go_wp2_with fail
      refine (bp_ p.o _ hg).mono ?_;rintro e w1 ⟨rfl,he⟩;obtain⟨x0,x1,x2,x3,ha,hh⟩:=box4 he;rw[hf]
      cases hl:(p.n==0)
      all_goals (have ho:=hl;simp at ho)
      all_goals go_wp2
      all_goals go_returns
      all_goals go_light
      all_goals refine⟨ac_ ?_,chain hB ha⟩
      all_goals (rw[hI.out,hd.out];simp[hz.out])
   ·obtain rfl:k=n:=by omega
    go_wp2;go_returns;go_light;refine⟨ac_ ?_,hB⟩;rw[hI.out,Ze (Zm hc.out)];rfl
 ·have hb:Hid (lateOkB l=false):=by show _=_;have:=hc.out;simp[lateOkB];omega
  go_enter func144,ntmps144;go_wp2;go_returns;go_light;exact⟨ac_ hb.out.symm,Below.refl _ _⟩
theorem em_ (a:Option Addr)(n cap:Nat)(l:List Ct)(w:World)(h:CtsAt w a n l)(hstr:StrC l)(hn:n<=4194304):
  Calls prog 104 #[.slice a n cap] w fun e w'=>e=.returned (.bool (lateOkB l))∧Below w.heap.size w w':=by
 have hc:Hid (l.length=n):=h.len;by_cases h2:n<=200
 ·have hb:Hid (lateOkB l=(l.drop 0).all lateB):=by show _=_;simp[lateOkB,hc.out,h2]
  go_enter func104,ntmps104
  go_wp2_with fail
  go_loopw [3] (fun ix wr=>∃ (k:Nat),k<=n∧ix=.int .i64 k∧Hid (lateOkB l=(l.drop k).all lateB)∧Below w.heap.size w wr) (fun ix _=>n-(intOf ix).toNat)
  case atStart=>exact⟨0,Zg _,rfl,hb,Below.refl _ _⟩
  case round=>
   obtain⟨k,hk,rfl,hI,hB⟩:=hrel;by_cases hlt:k<n
   ·obtain⟨b,o,p,rfl,hp,c0,c1,c2,c3⟩:=aN_ (h.below hB) hlt;have hd:Hid (l.drop k=p::l.drop (k+1)):=al_ hp;have hg:=hstr.at hp;clear hp;have hh:=hB.size
    cases he:ownerOkB p.o
    ·go_wp2_with fail
     refine (bq_ p.o _ hg).mono ?_;rintro e w1 ⟨rfl,ha⟩;rw[he];go_wp2;go_returns;go_light;refine⟨ac_ ?_,chain hB ha⟩;rw[hI.out,hd.out];simp[lateB,he]
    ·cases hf:(decide (-1000<=p.n)&&decide (p.n<=1000))
     ·go_wp2_with fail
      refine (bq_ p.o _ hg).mono ?_;rintro e w1 ⟨rfl,ha⟩;rw[he];have e3:=bcell ha c3
      go_wp2_with fail
      refine (ai_ _ _ _ _).mono ?_;rintro e w2 ⟨rfl,rfl⟩;rw[hf];go_wp2;go_returns;go_light;refine⟨ac_ ?_,chain hB ha⟩;rw[hI.out,hd.out];simp only[List.all_cons,lateB,he,Zp,hf,Zr]
     ·cases hz:(p.n==0)
      all_goals
       go_wp2_with fail
       refine (bq_ p.o _ hg).mono ?_;rintro e w1 ⟨rfl,ha⟩;rw[he];have e3:=bcell ha c3
       go_wp2_with fail
       refine (ai_ _ _ _ _).mono ?_;rintro e w2 ⟨rfl,rfl⟩;rw[hf];go_wp2
      ·go_roundw
       case rel=>exact⟨k+1,by omega,by go_num,by show _=_;rw[hI.out,hd.out];simp only[List.all_cons,lateB,he,Zp,hf,hz,Bool.not_false],chain hB ha⟩
       case measure=>simp[intOf];omega
      ·go_returns;go_light;refine⟨ac_ ?_,chain hB ha⟩;rw[hI.out,hd.out];simp only[List.all_cons,lateB,he,Zp,hf,hz,Bool.not_true,Zr]
   ·obtain rfl:k=n:=by omega
    go_wp2;go_returns;go_light;refine⟨ac_ ?_,hB⟩;rw[hI.out,Ze (Zm hc.out)];rfl
 ·have hb:Hid (lateOkB l=false):=by show _=_;have:=hc.out;simp[lateOkB];omega
  go_enter func104,ntmps104;go_wp2;go_returns;go_light;exact⟨ac_ hb.out.symm,Below.refl _ _⟩
def refB (c:Ct):Bool:=ownerOkB c.o&&decide (1<=c.n)&&decide (c.n<=1000)
def rgo:Option Ct->List Ct->Bool
 |_,[]=>true
 |none,c::r=>refB c&&rgo (some c) r
 |some q,c::r=>refB c&&owLt q.o c.o&&rgo (some c) r
def refsOkB (l:List Ct):Bool:=decide (l.length<=200)&&rgo none l
def aheadC (l:List Ct)(k:Nat):Option Ct:=if k=0 then none else l[k-1]?
theorem gH_ (l:List Ct):aheadC l 0=none:=rfl
theorem bU_ (l:List Ct)(k:Nat):aheadC l (k+1)=l[k]?:=by simp[aheadC]
theorem cK_ (a:Option Addr)(n cap:Nat)(l:List Ct)(w:World)(h:CtsAt w a n l)(hstr:StrC l)(hn:n<=4194304):
  Calls prog 143 #[.slice a n cap] w fun e w'=>e=.returned (.bool (refsOkB l))∧Below w.heap.size w w':=by
 have hc:Hid (l.length=n):=h.len;by_cases h2:n<=200
 ·have hb:Hid (refsOkB l=rgo (aheadC l 0) (l.drop 0)):=by show _=_;simp[refsOkB,hc.out,h2,aheadC]
  go_enter func143,ntmps143
  go_wp2_with fail
  go_loopw [10] (fun ix wr=>∃ (k:Nat),k<=n∧ix=.int .i64 k∧Hid (refsOkB l=rgo (aheadC l k) (l.drop k))∧Below w.heap.size w wr) (fun ix _=>n-(intOf ix).toNat)
  case atStart=>exact⟨0,Zg _,rfl,hb,Below.refl _ _⟩
  case round=>
   obtain⟨k,hk,rfl,hI,hB⟩:=hrel;by_cases hlt:k<n
   ·obtain⟨b,o,p,rfl,hp,c0,c1,c2,c3⟩:=aN_ (h.below hB) hlt;have hd:Hid (l.drop k=p::l.drop (k+1)):=al_ hp;have hq:Hid (l[k]?=some p):=hp;have hg:=hstr.at hp;clear hp;have hw:=hB.size
    cases hf:ownerOkB p.o
    ·go_wp2_with fail
     refine (bp_ p.o _ hg).mono ?_;rintro e w1 ⟨rfl,he⟩;obtain⟨x0,x1,x2,x3,ha,hh⟩:=box4 he;rw[hf];go_wp2;go_returns;go_light;refine⟨ac_ ?_,chain hB ha⟩;rw[hI.out,hd.out];cases aheadC l k<;>simp[rgo,refB,hf]
    ·by_cases hok:1<=p.n∧p.n<=1000
     ·obtain⟨hu,hv⟩:=hok;have ho:Hid (refB p=true):=by show _=_;simp[refB,hf,hu,hv]
      rcases k with _ | j
      ·simp only[Nat.zero_mul,Nat.add_zero] at c0 c1 c2 c3
       go_wp2_with fail
       refine (bp_ p.o _ hg).mono ?_;rintro e w1 ⟨rfl,he⟩;obtain⟨x0,x1,x2,x3,ha,hh⟩:=box4 he;rw[hf]
       go_wp2_with fail
       go_quiet (fail)
       go_wp2;go_roundw
       case rel=>exact⟨1,by omega,by go_num,by show _=_;rw[hI.out,hd.out,gH_,bU_,hq.out];simp[rgo,ho.out],chain hB (chain ha (drewNB _ _))⟩
       case measure=>simp[intOf];omega
      ·obtain⟨b',o',q,hm,hs,d0,d1,d2,d3⟩:=aN_ (h.below hB) (k:=j) (by omega);obtain⟨rfl,rfl⟩:b=b'∧o=o':=by simpa using hm
       have hr:Hid (aheadC l (j+1)=some q):=by show _=_;rw[bU_];exact hs
       clear hs hm
       cases hl:owLt q.o p.o
       all_goals
        go_wp2_with fail
        refine (bp_ p.o _ hg).mono ?_;rintro e w1 ⟨rfl,he⟩;obtain⟨x0,x1,x2,x3,ha,hh⟩:=box4 he;rw[hf];replace d0:=bcell ha d0;replace d1:=bcell ha d1;replace d2:=bcell ha d2;have hj:(0:Int)<(j:Int)+1:=by omega
        have hD:(j:Int)<n:=by omega
        have hy:(0:Int)<=j:=by omega
        have hE:IntKind.i64.wrap ((j:Int)+1-1)=(j:Int):=by rw[IntKind.wrap_i64];omega
        have hC:IntKind.i64.wrap (j:Int)=(j:Int):=by rw[IntKind.wrap_i64];omega
        clear c0 c1 c2 c3
        go_wp2_with fail
        have g0:=gcell x0;have g1:=gcell x1;have g2:=gcell x2;have g3:=gcell d0;have g4:=gcell d1;have g5:=gcell d2;have hA:=aA_ w1;refine ab_ (by kernel_rfl) (by kernel_rfl) ?_
        repeat (go_big_quiet_step (first | (go_at_call 172;have qq:=gU_ q.o p.o;rw[hl] at qq;exact an_ (qq _))))
        refine wpQuiet_nil ?_;intro w2 hx;have ht:=ah_ hx;clear hx;go_wp2
       ·go_returns;go_light;refine⟨ac_ ?_,chain hB (chain ha ht)⟩;rw[hI.out,hd.out,hr.out];simp[rgo,hl]
       ·go_roundw
        case rel=>exact⟨j+2,by omega,by go_num,by show _=_;rw[hI.out,hd.out,hr.out,bU_,hq.out];simp[rgo,hl,ho.out],chain hB (chain ha ht)⟩
        case measure=>simp[intOf];omega
     ·have hz:Hid (refB p=false):=by show _=_;simp[refB];omega
      go_wp2_with fail
      refine (bp_ p.o _ hg).mono ?_;rintro e w1 ⟨rfl,he⟩;obtain⟨x0,x1,x2,x3,ha,hh⟩:=box4 he;rw[hf];go_wp2
      all_goals go_returns
      all_goals go_light
      all_goals refine⟨ac_ ?_,chain hB ha⟩
      all_goals (rw[hI.out,hd.out];cases aheadC l k<;>simp[rgo,hz.out])
   ·obtain rfl:k=n:=by omega
    go_wp2;go_returns;go_light;refine⟨ac_ ?_,hB⟩;rw[hI.out,Ze (Zm hc.out)];cases aheadC l k<;>rfl
 ·have hb:Hid (refsOkB l=false):=by show _=_;have:=hc.out;simp[refsOkB];omega
  go_enter func143,ntmps143;go_wp2;go_returns;go_light;exact⟨ac_ hb.out.symm,Below.refl _ _⟩
theorem bV_ (a:Option Addr)(n cap:Nat)(l:List Ct)(w:World)(h:CtsAt w a n l)(hstr:StrC l)(hn:n<=4194304):
  Calls prog 103 #[.slice a n cap] w fun e w'=>e=.returned (.bool (refsOkB l))∧Below w.heap.size w w':=by
 have hc:Hid (l.length=n):=h.len;by_cases h2:n<=200
 ·have hb:Hid (refsOkB l=rgo (aheadC l 0) (l.drop 0)):=by show _=_;simp[refsOkB,hc.out,h2,aheadC]
  go_enter func103,ntmps103
  go_wp2_with fail
  go_loopw [3] (fun ix wr=>∃ (k:Nat),k<=n∧ix=.int .i64 k∧Hid (refsOkB l=rgo (aheadC l k) (l.drop k))∧Below w.heap.size w wr) (fun ix _=>n-(intOf ix).toNat)
  case atStart=>exact⟨0,Zg _,rfl,hb,Below.refl _ _⟩
  case round=>
   obtain⟨k,hk,rfl,hI,hB⟩:=hrel;by_cases hlt:k<n
   ·obtain⟨b,o,p,rfl,hp,c0,c1,c2,c3⟩:=aN_ (h.below hB) hlt;have hd:Hid (l.drop k=p::l.drop (k+1)):=al_ hp;have hq:Hid (l[k]?=some p):=hp;have hg:=hstr.at hp;clear hp;have hs:=hB.size;have hu:(k:Int)<n:=by omega
    have ht:(0:Int)<=k:=by omega
    cases he:ownerOkB p.o
    ·go_wp2_with fail
     have g0:=gcell c0;have g1:=gcell c1;have g2:=gcell c2;have g3:=gcell c3;have hh:=aA_ wr;refine ab_ (by kernel_rfl) (by kernel_rfl) ?_
     repeat (go_big_quiet_step (first | (go_at_call 148;have qq:=fun w=>bq_ p.o w hg;rw[he] at qq;exact an_ (qq _))))
     refine wpQuiet_nil ?_;intro w2 hx;have ha:=ah_ hx;clear hx;go_wp2;go_returns;go_light;refine⟨ac_ ?_,chain hB ha⟩;rw[hI.out,hd.out];cases aheadC l k<;>simp[rgo,refB,he]
    ·cases hf:(decide (1<=p.n)&&decide (p.n<=1000))
     ·have hz:Hid (refB p=false):=by show _=_;simp only[refB,he,Zp,hf]
      go_wp2_with fail
      have g0:=gcell c0;have g1:=gcell c1;have g2:=gcell c2;have g3:=gcell c3;have hh:=aA_ wr;refine ab_ (by kernel_rfl) (by kernel_rfl) ?_
      repeat (go_big_quiet_step (first | (go_at_call 148;have qq:=fun w=>bq_ p.o w hg;rw[he] at qq;exact an_ (qq _)) | (go_at_call 52;have qq:=ai_ p.n 1 1000;rw[hf] at qq;exact am_ (qq _))))
      refine wpQuiet_nil ?_;intro w2 hx;have ha:=ah_ hx;clear hx;go_wp2;go_returns;go_light;refine⟨ac_ ?_,chain hB ha⟩;rw[hI.out,hd.out];cases aheadC l k<;>simp[rgo,hz.out]
     ·have hm:Hid (refB p=true):=by show _=_;simp only[refB,he,Zp,hf]
      rcases k with _ | j
      ·simp only[Nat.zero_mul,Nat.add_zero] at c0 c1 c2 c3
       go_wp2_with fail
       have g0:=gcell c0;have g1:=gcell c1;have g2:=gcell c2;have g3:=gcell c3;have hh:=aA_ wr;refine ab_ (by kernel_rfl) (by kernel_rfl) ?_
       repeat (go_big_quiet_step (first | (go_at_call 148;have qq:=fun w=>bq_ p.o w hg;rw[he] at qq;exact an_ (qq _)) | (go_at_call 52;have qq:=ai_ p.n 1 1000;rw[hf] at qq;exact am_ (qq _))))
       refine wpQuiet_nil ?_;intro w2 hx;have ha:=ah_ hx;clear hx;go_wp2;go_roundw
       case rel=>exact⟨1,by omega,by go_num,by show _=_;rw[hI.out,hd.out,gH_,bU_,hq.out];simp[rgo,hm.out],chain hB ha⟩
       case measure=>simp[intOf];omega
      ·obtain⟨b',o',q,hl,hr,d0,d1,d2,d3⟩:=aN_ (h.below hB) (k:=j) (by omega);obtain⟨rfl,rfl⟩:b=b'∧o=o':=by simpa using hl
       have ho:Hid (aheadC l (j+1)=some q):=by show _=_;rw[bU_];exact hr
       clear hr hl d3
       cases hj:owLt q.o p.o
       all_goals
        go_wp2_with fail
        have g0:=gcell c0;have g1:=gcell c1;have g2:=gcell c2;have g3:=gcell c3;have g4:=gcell d0;have g5:=gcell d1;have g6:=gcell d2;have hh:=aA_ wr;refine ab_ (by kernel_rfl) (by kernel_rfl) ?_
        repeat (go_big_quiet_step (first | (go_at_call 148;have qq:=fun w=>bq_ p.o w hg;rw[he] at qq;exact an_ (qq _)) | (go_at_call 52;have qq:=ai_ p.n 1 1000;rw[hf] at qq;exact am_ (qq _)) | (go_at_call 149;have qq:=aF_ q.o p.o;rw[hj] at qq;exact an_ (qq _))))
        refine wpQuiet_nil ?_;intro w2 hx;have ha:=ah_ hx;clear hx;go_wp2
       ·go_returns;go_light;refine⟨ac_ ?_,chain hB ha⟩;rw[hI.out,hd.out,ho.out];simp[rgo,hj]
       ·go_roundw
        case rel=>exact⟨j+2,by omega,by go_num,by show _=_;rw[hI.out,hd.out,ho.out,bU_,hq.out];simp[rgo,hj,hm.out],chain hB ha⟩
        case measure=>simp[intOf];omega
   ·obtain rfl:k=n:=by omega
    go_wp2;go_returns;go_light;refine⟨ac_ ?_,hB⟩;rw[hI.out,Ze (Zm hc.out)];cases aheadC l k<;>rfl
 ·have hb:Hid (refsOkB l=false):=by show _=_;have:=hc.out;simp[refsOkB];omega
  go_enter func103,ntmps103;go_wp2;go_returns;go_light;exact⟨ac_ hb.out.symm,Below.refl _ _⟩
def flushedO (refs late:List Ct):Option (List Ct):=if refsOkB refs=true∧lateOkB late=true then (if refsOkB (sumC refs late)=true then some (sumC refs late) else none) else none
theorem br_ (h:lateOkB l=true):l.length<=200∧∀ x∈l,-1000<=x.n∧x.n<=1000:=by
 simp only[lateOkB,Zf,ZU,List.all_eq_true] at h;refine⟨h.1,fun x hx=>?_⟩
 have:=h.2 x hx
 simp only[lateB,Zf,ZU] at this;exact⟨this.1.1.2,this.1.2⟩
theorem j5_ {c:Ct}(hc:c.o.f.size<=9223372036854775807):∀ {l:List Ct},StrC l->StrC (addC l c)
 |[],_=>by intro x hx;simp[addC] at hx;subst hx;exact hc
 |y::r,h=>by
  have hy:=h y (by simp);have hr:StrC r:=fun x hx=>h x (by simp[hx]);unfold addC;split
  ·intro x hx;rcases Zn.1 hx with rfl | hx
   ·exact hy
   ·exact j5_ hc hr x hx
  ·split
   ·split
    ·intro x hx;rcases Zn.1 hx with rfl | hx
     ·exact hc
     ·exact hr x hx
    ·exact hr
   ·intro x hx;rcases Zn.1 hx with rfl | hx
    ·exact hc
    ·exact h x hx
theorem ht_:∀ {more l:List Ct},StrC l->StrC more->StrC (sumC l more)
 |[],l,h,_=>h
 |c::r,l,h,hm=>ht_ (more:=r) (l:=addC l c) (j5_ (hm c (by simp)) h) (fun x hx=>hm x (by simp[hx]))
theorem g1_:∀ {l:List Ct} {q:Option Ct},rgo q l=true->∀ x∈l,refB x=true
 |[],_,_=>by simp
 |c::r,q,h=>by
  have h2:refB c=true∧rgo (some c) r=true:=by
   cases q
   ·simpa only[rgo,Zf] using h
   ·simp only[rgo,Zf] at h;exact⟨h.1.1,h.2⟩
  intro x hx;rcases Zn.1 hx with rfl | hx
  ·exact h2.1
  ·exact g1_ h2.2 x hx
theorem a0_ (h:refsOkB l=true):l.length<=200∧∀ x∈l,1<=x.n∧x.n<=1000:=by
 simp only[refsOkB,Zf,ZU] at h;refine⟨h.1,fun x hx=>?_⟩
 have:=g1_ h.2 x hx
 simp only[refB,Zf,ZU] at this;exact⟨this.1.2,this.2⟩
def RetCts (B:Nat)(e:Ending)(w':World):Option (List Ct)->Prop
 |none=>e=.returned (.tuple #[.slice none 0 0,.bool false])
 |some L=>∃ a n cap,e=.returned (.tuple #[.slice a n cap,.bool true])∧ResAt Ct.cs 4 107 w' B a n cap L
theorem je_ (a:Option Addr)(n cap:Nat)(l:List Ct)(a':Option Addr)(n' cap':Nat)(more:List Ct)(w:World)(h:CtsAt w a n l)(ha1:∀ ad,a=some ad->ad.spot=none)(ha2:a=none->cap=0)(h':CtsAt w a' n' more)(hstr:StrC l)(hstr':StrC more)(hn:n<=4194304)(hn':n'<=4194304):
  Calls prog 54 #[.slice a n cap,.slice a' n' cap'] w fun e w'=>RetCts w.heap.size e w' (flushedO l more)∧Below w.heap.size w w':=by
 have hq:Hid (l.length=n):=h.len;have hk:Hid (more.length=n'):=h'.len
 cases hh:refsOkB l
 ·have hf:flushedO l more=none:=by simp[flushedO,hh]
  rw[hf];go_enter func54,ntmps54
  go_wp2_with fail
  refine (bV_ a n cap l _ h hstr hn).mono ?_;rintro e w1 ⟨rfl,he⟩;rw[hh];go_wp2;go_returns;go_light;exact⟨rfl,he⟩
 ·cases ha:lateOkB more
  ·have hf:flushedO l more=none:=by simp[flushedO,ha]
   rw[hf];go_enter func54,ntmps54
   go_wp2_with fail
   refine (bV_ a n cap l _ h hstr hn).mono ?_;rintro e w1 ⟨rfl,he⟩;rw[hh]
   go_wp2_with fail
   refine (em_ a' n' cap' more _ (h'.below he) hstr' hn').mono ?_;rintro e w2 ⟨rfl,hm⟩;rw[ha];have hc:=chain he hm;go_wp2;go_returns;go_light;exact⟨rfl,hc⟩
  ·obtain⟨hl,hb⟩:=a0_ hh;obtain⟨hw,hv⟩:=br_ ha;have ht:n<=200:=by rw[<-hq.out];exact hl
   have hj:n'<=200:=by rw[<-hk.out];exact hw
   have hu:=ht_ hstr hstr'
   cases hg:refsOkB (sumC l more)
   ·have hf:flushedO l more=none:=by simp[flushedO,hh,ha,hg]
    rw[hf];clear hf;go_enter func54,ntmps54
    go_wp2_with fail
    refine (bV_ a n cap l _ h hstr hn).mono ?_;rintro e w1 ⟨rfl,he⟩;rw[hh]
    go_wp2_with fail
    refine (em_ a' n' cap' more _ (h'.below he) hstr' hn').mono ?_;rintro e w2 ⟨rfl,hm⟩;rw[ha];have hc:=chain he hm
    go_wp2_with fail
    refine (hs_ a n cap l a' n' cap' more w2 (h.below hc) ha1 ha2 (h'.below hc) ht hj (fun x hx=>by have:=hb x hx;omega) hv).mono ?_;rintro e w4 ⟨⟨a2,n2,cap2,rfl,hy,R2⟩,hr⟩;have hs:=chain hc hr;replace R2:=R2.mono hc.size
    go_wp2_with fail
    refine (bV_ a2 n2 cap2 (sumC l more) _ R2.sl hu (by omega)).mono ?_;rintro e w6 ⟨rfl,ho⟩;rw[hg];have hp:=chain hs ho;replace R2:=R2.below ho;go_wp2;go_returns;go_light;exact⟨rfl,hp⟩
   ·have hf:flushedO l more=some (sumC l more):=by simp[flushedO,hh,ha,hg]
    rw[hf];clear hf;go_enter func54,ntmps54
    go_wp2_with fail
    refine (bV_ a n cap l _ h hstr hn).mono ?_;rintro e w1 ⟨rfl,he⟩;rw[hh]
    go_wp2_with fail
    refine (em_ a' n' cap' more _ (h'.below he) hstr' hn').mono ?_;rintro e w2 ⟨rfl,hm⟩;rw[ha];have hc:=chain he hm
    go_wp2_with fail
    refine (hs_ a n cap l a' n' cap' more w2 (h.below hc) ha1 ha2 (h'.below hc) ht hj (fun x hx=>by have:=hb x hx;omega) hv).mono ?_;rintro e w4 ⟨⟨a2,n2,cap2,rfl,hy,R2⟩,hr⟩;have hs:=chain hc hr;replace R2:=R2.mono hc.size
    go_wp2_with fail
    refine (bV_ a2 n2 cap2 (sumC l more) _ R2.sl hu (by omega)).mono ?_;rintro e w6 ⟨rfl,ho⟩;rw[hg];have hp:=chain hs ho;replace R2:=R2.below ho;go_wp2;go_returns;go_light;exact⟨⟨a2,n2,cap2,rfl,R2⟩,hp⟩
theorem jf_ (p:Ow)(w:World):
  Calls prog 115 #[.agg #[.int .i64 p.a,.int .i64 p.v,.string p.f]] w fun e w'=>e=.returned (.agg #[.int .i64 p.a,.int .i64 p.v,.string p.f])∧Below w.heap.size w w':=by
 obtain⟨a,v,f⟩:=p;go_enter func115,ntmps115;go_wp2;go_returns;go_light;refine⟨rfl,by go_grown⟩
theorem box443 {d:Array Value}{t1 t2:TypeId}(hb:Below (((w.alloc (.cells #[x,y,z,u] t)).alloc (.cells c t1)).alloc (.cells d t2)).heap.size (((w.alloc (.cells #[x,y,z,u] t)).alloc (.cells c t1)).alloc (.cells d t2)) w1):
  w1.cell? ⟨w.heap.size,3,none⟩=some u∧Blk w1 (w.heap.size+1) c t1∧Blk w1 (w.heap.size+1+1) d t2∧Below w.heap.size w w1:=by
 refine⟨bcell hb (acell _ (acell _ (World.cell?_alloc_new _ _ _ 3))),?_,?_,chain (by go_grown) hb⟩
 ·have:=((Blk.new (w.alloc (.cells #[x,y,z,u] t)) c t1).alloc (.cells d t2)).below hb
  simpa using this
 ·have:=(Blk.new ((w.alloc (.cells #[x,y,z,u] t)).alloc (.cells c t1)) d t2).below hb
  simpa using this
theorem Blk.other {b:Nat}(h:Blk w b c t)(p:Addr)(v:Value)(hp:b≠p.block):Blk (w.setCell p v) b c t:=by
 unfold Blk at *;rw[Below.heap_setCell _ _ _ _ (by simpa using hp)];exact h
theorem hu_ (p:Ct)(w:World):
  Calls prog 66 #[.agg #[.int .i64 p.o.a,.int .i64 p.o.v,.string p.o.f,.int .i64 p.n]] w fun e w'=>e=.returned (.agg #[.int .i64 p.o.a,.int .i64 p.o.v,.string p.o.f,.int .i64 p.n])∧Below w.heap.size w w':=by
 obtain⟨⟨a,v,f⟩,n⟩:=p;go_enter func66,ntmps66
 go_wp2_with fail
 refine (jf_ ⟨a,v,f⟩ _).mono ?_;rintro e w1 ⟨rfl,hc⟩;obtain⟨c3,ha,hb,hg⟩:=box443 hc;clear hc;have g0:=ha.frozen 0;have g1:=ha.frozen 1;have g2:=ha.frozen 2;have g3:=ha.frozen 3;have z0:w1.cell? ⟨w.heap.size+1,0,none⟩=some (.int .i64 0):=ha.cell 0;have z1:w1.cell? ⟨w.heap.size+1,1,none⟩=some (.int .i64 0):=ha.cell 1;have z2:w1.cell? ⟨w.heap.size+1,2,none⟩=some (.string ⟨#[]⟩):=ha.cell 2;have z3:w1.cell? ⟨w.heap.size+1,3,none⟩=some (.int .i64 0):=ha.cell 3;have f0:=hb.frozen 0;have f1:=hb.frozen 1;have f2:=hb.frozen 2;have f3:=hb.frozen 3;have y0:w1.cell? ⟨w.heap.size+1+1,0,none⟩=some (.int .i64 0):=hb.cell 0;have y1:w1.cell? ⟨w.heap.size+1+1,1,none⟩=some (.int .i64 0):=hb.cell 1;have y2:w1.cell? ⟨w.heap.size+1+1,2,none⟩=some (.string ⟨#[]⟩):=hb.cell 2;have y3:w1.cell? ⟨w.heap.size+1+1,3,none⟩=some (.int .i64 0):=hb.cell 3
 have he:Blk ((((w1.setCell ⟨w.heap.size+1+1,0,none⟩ (.int .i64 a)).setCell ⟨w.heap.size+1+1,1,none⟩ (.int .i64 v)).setCell ⟨w.heap.size+1+1,2,none⟩ (.string f)).setCell ⟨w.heap.size+1+1,3,none⟩ (.int .i64 n)) (w.heap.size+1) #[.int .i64 0,.int .i64 0,.string ⟨#[]⟩,.int .i64 0] 107:=
  (((ha.other ⟨w.heap.size+1+1,0,none⟩ (.int .i64 a) (by simp)).other ⟨w.heap.size+1+1,1,none⟩ (.int .i64 v) (by simp)).other ⟨w.heap.size+1+1,2,none⟩ (.string f) (by simp)).other ⟨w.heap.size+1+1,3,none⟩ (.int .i64 n) (by simp)
 have hf:Below w.heap.size w ((((((((w1.setCell ⟨w.heap.size+1+1,0,none⟩ (.int .i64 a)).setCell ⟨w.heap.size+1+1,1,none⟩ (.int .i64 v)).setCell ⟨w.heap.size+1+1,2,none⟩ (.string f)).setCell ⟨w.heap.size+1+1,3,none⟩ (.int .i64 n)).setCell ⟨w.heap.size+1,0,none⟩ (.int .i64 a)).setCell ⟨w.heap.size+1,1,none⟩ (.int .i64 v)).setCell ⟨w.heap.size+1,2,none⟩ (.string f)).setCell ⟨w.heap.size+1,3,none⟩ (.int .i64 n)):=by
  refine (((((((hg.setCell ?_ _).setCell ?_ _).setCell ?_ _).setCell ?_ _).setCell ?_ _).setCell ?_ _).setCell ?_ _).setCell ?_ _
  all_goals (simp;try omega)
 have hW:Blk ((((((((w1.setCell ⟨w.heap.size+1+1,0,none⟩ (.int .i64 a)).setCell ⟨w.heap.size+1+1,1,none⟩ (.int .i64 v)).setCell ⟨w.heap.size+1+1,2,none⟩ (.string f)).setCell ⟨w.heap.size+1+1,3,none⟩ (.int .i64 n)).setCell ⟨w.heap.size+1,0,none⟩ (.int .i64 a)).setCell ⟨w.heap.size+1,1,none⟩ (.int .i64 v)).setCell ⟨w.heap.size+1,2,none⟩ (.string f)).setCell ⟨w.heap.size+1,3,none⟩ (.int .i64 n)) (w.heap.size+1) #[.int .i64 a,.int .i64 v,.string f,.int .i64 n] 107:=by
  have:=(((he.set 0 (.int .i64 a)).set 1 (.int .i64 v)).set 2 (.string f)).set 3 (.int .i64 n)
  simpa using this
 clear hb ha he;go_wp2;generalize ((((((((w1.setCell ⟨w.heap.size+1+1,0,none⟩ (.int .i64 a)).setCell ⟨w.heap.size+1+1,1,none⟩ (.int .i64 v)).setCell ⟨w.heap.size+1+1,2,none⟩ (.string f)).setCell ⟨w.heap.size+1+1,3,none⟩ (.int .i64 n)).setCell ⟨w.heap.size+1,0,none⟩ (.int .i64 a)).setCell ⟨w.heap.size+1,1,none⟩ (.int .i64 v)).setCell ⟨w.heap.size+1,2,none⟩ (.string f)).setCell ⟨w.heap.size+1,3,none⟩ (.int .i64 n))=W8 at *;refine bodyPost_ret (results_cell_row rfl _ W8 (w.heap.size+1) _ _ _ _ rfl hW underlying107 rfl (by kernel_rfl)) rfl ?_;exact⟨rfl,hf⟩
theorem jg_ (p q:Ow)(w:World):
  Calls prog 138 #[.agg #[.int .i64 p.a,.int .i64 p.v,.string p.f],.agg #[.int .i64 q.a,.int .i64 q.v,.string q.f]] w fun e w'=>e=.returned (.bool (owEq p q))∧Below w.heap.size w w':=by
 obtain⟨a,v,f⟩:=p;obtain⟨b,u,g⟩:=q;go_enter func138,ntmps138;go_wp2
 all_goals go_returns
 all_goals go_light
 all_goals refine⟨?_,by go_grown⟩
 all_goals simp_all [owEq]
def eqCt (p q:Ct):Bool:=owEq p.o q.o&&p.n==q.n
theorem hv_ (p q:Ct)(w:World):
  Calls prog 88 #[.agg #[.int .i64 p.o.a,.int .i64 p.o.v,.string p.o.f,.int .i64 p.n],.agg #[.int .i64 q.o.a,.int .i64 q.o.v,.string q.o.f,.int .i64 q.n]] w fun e w'=>e=.returned (.bool (eqCt p q))∧Below w.heap.size w w':=by
 cases he:owEq p.o q.o
 all_goals
  have ha:Hid (eqCt p q=(owEq p.o q.o&&p.n==q.n)):=rfl;generalize eqCt p q=R at *;obtain⟨⟨a,v,f⟩,n⟩:=p;obtain⟨⟨b,u,g⟩,m⟩:=q;simp only at *;go_enter func88,ntmps88
  go_wp2_with fail
  refine (jg_ ⟨a,v,f⟩ ⟨b,u,g⟩ _).mono ?_;rintro e w1 ⟨rfl,hb⟩;rw[he];have c3:w1.cell? ⟨w.heap.size,3,none⟩=some (.int .i64 n):=bcell hb (acell _ (by simp));have d3:w1.cell? ⟨w.heap.size+1,3,none⟩=some (.int .i64 m):=bcell hb (by simp);have hc:Below w.heap.size w w1:=chain (by go_grown) hb;clear hb
 ·go_wp2;go_returns;go_light;exact⟨ac_ (by rw[ha.out,he];rfl),hc⟩
 ·go_wp2
  all_goals go_returns
  all_goals go_light
  all_goals refine⟨ac_ ?_,hc⟩
  all_goals (rw[ha.out,he];simp_all)
theorem fN_ (p:Ow)(left:Int)(w:World)(h0:0<=left)(h1:left<=1048576)(hd:p.f.size<=9223372036854775807):
  Calls prog 98 #[.agg #[.int .i64 p.a,.int .i64 p.v,.string p.f],.int .i64 left] w fun e w'=>e=.returned (.int .i64 (if left-p.f.size<0 then -1 else left-p.f.size))∧Below w.heap.size w w':=by
 obtain⟨a,v,d⟩:=p;simp only at hd ⊢;by_cases h:left-(d.size:Int)<0
 ·rw[if_pos h];go_enter func98,ntmps98;go_wp2;go_returns;go_light;exact⟨rfl,by go_grown⟩
 ·rw[if_neg h];go_enter func98,ntmps98;go_wp2;go_returns;go_light;exact⟨rfl,by go_grown⟩
def szC (left:Int)(p:Ct):Int:=if left-p.o.f.size<0 then -1 else left-p.o.f.size
theorem en_ (p:Ct)(left:Int)(w:World)(h0:0<=left)(h1:left<=1048576)(hd:p.o.f.size<=9223372036854775807):
  Calls prog 50 #[.agg #[.int .i64 p.o.a,.int .i64 p.o.v,.string p.o.f,.int .i64 p.n],.int .i64 left] w fun e w'=>e=.returned (.int .i64 (szC left p))∧Below w.heap.size w w':=by
 by_cases h:left-(p.o.f.size:Int)<0
 ·have hf:Hid (szC left p=-1):=by show _=_;simp[szC];omega
  generalize szC left p=R at *;obtain⟨⟨a,v,d⟩,n⟩:=p;simp only at *;go_enter func50,ntmps50
  go_wp2_with fail
  refine (fN_ ⟨a,v,d⟩ left _ h0 h1 hd).mono ?_;rintro e w1 ⟨rfl,ha⟩;have hb:Below w.heap.size w w1:=chain (by go_grown) ha;clear ha;simp only[if_pos h];go_wp2;go_returns;go_light;exact⟨a4_ hf.out.symm,hb⟩
 ·have hf:Hid (szC left p=left-p.o.f.size):=by show _=_;simp[szC];omega
  generalize szC left p=R at *;obtain⟨⟨a,v,d⟩,n⟩:=p;simp only at *;go_enter func50,ntmps50
  go_wp2_with fail
  refine (fN_ ⟨a,v,d⟩ left _ h0 h1 hd).mono ?_;rintro e w1 ⟨rfl,ha⟩;have hb:Below w.heap.size w w1:=chain (by go_grown) ha;clear ha;simp only[if_neg (Int.not_lt.2 h)];go_wp2;go_returns;go_light;exact⟨a4_ hf.out.symm,hb⟩
def SmallC (n:Nat)(l:List Ct):Prop:=n<=1048576∧∀ e∈l,e.o.f.size<=1048576
theorem SmallC.strs {n:Nat}(h:SmallC n l):StrC l:=fun e he=>by have:=h.2 e he;omega
theorem d1_ (a:Option Addr)(n cap:Nat)(l:List Ct)(L:Int)(w:World)(h:CtsAt w a n l)(hstr:StrC l)(hn:n<=9223372036854775807)(hL0:0<=L)(hL:L<=1048576):
  Calls prog 25 #[.slice a n cap,.int .i64 L] w fun e w'=>(∃ r:Int,e=.returned (.int .i64 r)∧(r=-1∨(0<=r∧r<=1048576∧SmallC n l)))∧Below w.heap.size w w':=by
 have ha:Hid (l.length=n):=h.len;by_cases hb:L-(n:Int)<0
 ·go_enter func25,ntmps25;go_wp2;go_returns;go_light;exact⟨⟨_,rfl,.inl rfl⟩,Below.refl _ _⟩
 ·go_enter func25,ntmps25
  go_wp2_with fail
  go_loopw [1,5] (fun lf ix wr=>∃ (k:Nat) (r:Int),k<=n∧ix=.int .i64 k∧lf=.int .i64 r∧0<=r∧r<=1048576∧Hid (∀ i e,i<k->l[i]?=some e->e.o.f.size<=1048576)∧Below w.heap.size w wr) (fun _ ix _=>n-(intOf ix).toNat)
  case atStart=>exact⟨0,_,Zg _,rfl,rfl,by omega,by omega,fun i e hi=>by omega,Below.refl _ _⟩
  case round=>
   obtain⟨k,r,hk,rfl,rfl,hc,hh,hI,hB⟩:=hrel;by_cases hlt:k<n
   ·obtain⟨b,o,p,rfl,hp,c0,c1,c2,c3⟩:=aN_ (h.below hB) hlt;have hl:Hid (l[k]?=some p):=hp;have hj:=hstr.at hp;clear hp;by_cases hs:r-(p.o.f.size:Int)<0
    ·have hf:Hid (szC r p=-1):=by show _=_;simp[szC];omega
     go_wp2_with fail
     refine (en_ p r _ hc hh hj).mono ?_;rintro e w1 ⟨rfl,hg⟩;rw[hf.out];go_wp2;go_returns;go_light;exact⟨⟨_,rfl,.inl rfl⟩,chain hB hg⟩
    ·have hf:Hid (szC r p=r-p.o.f.size):=by show _=_;simp[szC];omega
     go_wp2_with fail
     refine (en_ p r _ hc hh hj).mono ?_;rintro e w1 ⟨rfl,hg⟩;rw[hf.out];go_wp2;go_roundw
     case rel=>
      refine⟨k+1,r-p.o.f.size,by omega,by go_num,rfl,by omega,by omega,?_,chain hB hg⟩;intro i e hi he;by_cases hik:i=k
      ·subst hik;rw[hl.out] at he;obtain rfl:=Zi he;omega
      ·exact hI.out i e (by omega) he
     case measure=>simp[intOf];omega
   ·obtain rfl:k=n:=by omega
    go_wp2;go_returns;go_light;refine⟨⟨_,rfl,.inr ⟨hc,hh,by omega,?_⟩⟩,hB⟩;intro e he;obtain⟨i,hi⟩:=List.mem_iff_getElem?.1 he;refine hI.out i e ?_ hi
    have:=(Zb.1 hi).1
    rw[ha.out] at this;exact this
def eqCts:List Ct->List Ct->Bool
 |[],[]=>true
 |p::r,q::s=>eqCt p q&&eqCts r s
 |_,_=>false
theorem hw_ (l:List Ct):eqCts l l=true:=by
 induction l with
 |nil=>rfl
 |cons p r ih=>simp[eqCts,eqCt,owEq,ih]
theorem gg_:∀ {m:List Ct},l.length≠m.length->eqCts l m=false:=by
 induction l with
 |nil=>intro m h;cases m<;>simp[eqCts] at *
 |cons p r ih=>intro m h;cases m<;>simp[eqCts] at *;exact fun _=>ih h
theorem d2_ (a:Option Addr)(n cap:Nat)(l:List Ct)(a':Option Addr)(n' cap':Nat)(m:List Ct)(w:World)(h:CtsAt w a n l)(h':CtsAt w a' n' m)(hn:n<=4194304)(hn':n'<=4194304):
  Calls prog 37 #[.slice a n cap,.slice a' n' cap'] w fun e w'=>e=.returned (.bool (eqCts l m))∧Below w.heap.size w w':=by
 have hb:Hid (l.length=n):=h.len;have ha:Hid (m.length=n'):=h'.len;by_cases hc:n=n'
 ·subst hc;have hh:((n:Int) != (n:Int))=false:=by simp
  go_enter func37,ntmps37
  go_wp2_with fail
  go_loopw [5] (fun ix wr=>∃ (k:Nat),k<=n∧ix=.int .i64 k∧Hid (eqCts l m=eqCts (l.drop k) (m.drop k))∧Below w.heap.size w wr) (fun ix _=>n-(intOf ix).toNat)
  case atStart=>exact⟨0,Zg _,rfl,rfl,Below.refl _ _⟩
  case round=>
   obtain⟨k,hk,rfl,hI,hB⟩:=hrel;by_cases hlt:k<n
   ·obtain⟨b,o,p,rfl,hp,c0,c1,c2,c3⟩:=aN_ (h.below hB) hlt;obtain⟨b',o',q,rfl,hq,d0,d1,d2,d3⟩:=aN_ (h'.below hB) hlt;have hd:Hid (l.drop k=p::l.drop (k+1)):=al_ hp;have hf:Hid (m.drop k=q::m.drop (k+1)):=al_ hq;clear hp hq;have hl:(k:Int)<n:=by omega
    have hj:(0:Int)<=k:=by omega
    cases he:eqCt p q
    all_goals
     go_wp2_with fail
     have g0:=gcell c0;have g1:=gcell c1;have g2:=gcell c2;have g3:=gcell c3;have g4:=gcell d0;have g5:=gcell d1;have g6:=gcell d2;have g7:=gcell d3;have hc:=aA_ wr;refine ab_ (by kernel_rfl) (by kernel_rfl) ?_
     repeat (go_big_quiet_step (first | (go_at_call 88;have qq:=hv_ p q;rw[he] at qq;exact an_ (qq _))))
     refine wpQuiet_nil ?_;intro w2 hx;have hg:=ah_ hx;clear hx;go_wp2
    ·go_returns;go_light;refine⟨ac_ ?_,chain hB hg⟩;rw[hI.out,hd.out,hf.out];simp only[eqCts,he,Zr]
    ·go_roundw
     case rel=>exact⟨k+1,by omega,by go_num,by show _=_;rw[hI.out,hd.out,hf.out];simp only[eqCts,he,Zp],chain hB hg⟩
     case measure=>simp[intOf];omega
   ·obtain rfl:k=n:=by omega
    go_wp2;go_returns;go_light;refine⟨ac_ ?_,hB⟩;rw[hI.out,Ze (Zm hb.out),Ze (Zm ha.out)];rfl
 ·have hh:((n:Int) != (n':Int))=true:=by simp;omega
  go_enter func37,ntmps37;go_wp2;go_returns;go_light;refine⟨ac_ ?_,Below.refl _ _⟩;rw[gg_ (by rw[hb.out,ha.out];exact hc)]
end
section
open Go Go.RowKit
structure It where
 nm:ByteArray
 ps:List Pt
end
section
open Go Go.RowKit
variable{B B' k n r:Nat}{a:Option Addr}{w w':World}
variable{l:List It}
structure Vo where
 id:Int
 nm:ByteArray
 fx:Bool
 its:List It
structure Po where
 size:Int
 next:Int
 ex:List Ex
 vs:List Vo
 rf:List Ct
 lt:List Ct
def Hd (B:Nat)(a:Option Addr)(n cap:Nat):Prop:=n<=cap∧cap<=9223372036854775807∧(0<B->(a=none->cap=0)∧∀ ad,a=some ad->ad.spot=none)
theorem Hd.mono {cap:Nat}(h:Hd B a n cap)(hb:B'<=B):Hd B' a n cap:=⟨h.1,h.2.1,fun h0=>h.2.2 (by omega)⟩
theorem gh_ (b n:Nat)(h:n<=9223372036854775807):Hd B (some ⟨b,0,none⟩) n n:=⟨Zd _,h,fun _=>⟨(fun e=>by cases e),fun ad e=>by cases e;rfl⟩⟩
def Sf (B:Nat)(w:World)(a:Option Addr):Prop:=0<B->∀ ad,a=some ad->B<=ad.block∧∃ c t,Blk w ad.block c t
theorem Sf.below (h:Sf B w a)(hb:Below w.heap.size w w'):Sf B w' a:=fun h0 ad e=>by
 obtain⟨h1,c,t,h2⟩:=h h0 ad e;exact⟨h1,c,t,h2.below hb⟩
theorem Sf.mono (h:Sf B w a)(hb:B'<=B):Sf B' w a:=fun h0 ad e=>by
 obtain⟨h1,r⟩:=h (by omega) ad e;exact⟨by omega,r⟩
theorem Sf.grown (h:Sf B w a)(hg:w.grownBy w' (some r))(hr:r<B):Sf B w' a:=fun h0 ad e=>by
 obtain⟨h1,c,t,h2⟩:=h h0 ad e;exact⟨h1,c,t,h2.grown hg (by simp only[ne_eq];omega)⟩
theorem gi_ {b:Nat}{c:Array Value}{t:TypeId}(h:Blk w b c t)(hb:B<=b):Sf B w (some ⟨b,0,none⟩):=fun _ ad e=>by cases e;exact⟨hb,c,t,h⟩
theorem eO_:Sf 0 w a:=fun h=>absurd h (by omega)
structure ItsAt (B:Nat)(w:World)(a:Option Addr)(n:Nat)(l:List It):Prop where
 len:l.length=n
 cell:∀ i x,l[i]?=some x->∃ b o pa pn pc,a=some ⟨b,o,none⟩∧w.cell? ⟨b,o+i*2,none⟩=some (.string x.nm)∧w.cell? ⟨b,o+i*2+1,none⟩=some (.slice pa pn pc)∧PtsAt w pa pn x.ps∧Hd B pa pn pc∧B<=b∧(∀ ad,pa=some ad->B<=ad.block)∧Sf B w pa∧Sf B w a
structure VsAt (B:Nat)(w:World)(a:Option Addr)(n:Nat)(l:List Vo):Prop where
 len:l.length=n
 cell:∀ i x,l[i]?=some x->∃ b o pa pn pc,a=some ⟨b,o,none⟩∧w.cell? ⟨b,o+i*4,none⟩=some (.int .i64 x.id)∧w.cell? ⟨b,o+i*4+1,none⟩=some (.string x.nm)∧w.cell? ⟨b,o+i*4+2,none⟩=some (.bool x.fx)∧w.cell? ⟨b,o+i*4+3,none⟩=some (.slice pa pn pc)∧ItsAt B w pa pn x.its∧Hd B pa pn pc∧B<=b∧Sf B w a
theorem ItsAt.below (h:ItsAt B w a n l)(hb:Below w.heap.size w w'):ItsAt B w' a n l:=
 ⟨h.len,fun i x hx=>by
  obtain⟨b,o,pa,pn,pc,ha,c0,c1,hp,hh,hB,hA,s1,s2⟩:=h.cell i x hx;exact⟨b,o,pa,pn,pc,ha,bcell hb c0,bcell hb c1,hp.below hb,hh,hB,hA,s1.below hb,s2.below hb⟩⟩
theorem VsAt.below {l:List Vo}(h:VsAt B w a n l)(hb:Below w.heap.size w w'):VsAt B w' a n l:=
 ⟨h.len,fun i x hx=>by
  obtain⟨b,o,pa,pn,pc,ha,c0,c1,c2,c3,hp,hh,hB,s2⟩:=h.cell i x hx;exact⟨b,o,pa,pn,pc,ha,bcell hb c0,bcell hb c1,bcell hb c2,bcell hb c3,hp.below hb,hh,hB,s2.below hb⟩⟩
theorem ItsAt.mono (h:ItsAt B w a n l)(hb:B'<=B):ItsAt B' w a n l:=
 ⟨h.len,fun i x hx=>by
  obtain⟨b,o,pa,pn,pc,ha,c0,c1,hp,hh,hB,hA,s1,s2⟩:=h.cell i x hx;exact⟨b,o,pa,pn,pc,ha,c0,c1,hp,hh.mono hb,by omega,fun ad hc=>by have:=hA ad hc;omega,s1.mono hb,s2.mono hb⟩⟩
theorem VsAt.mono {l:List Vo}(h:VsAt B w a n l)(hb:B'<=B):VsAt B' w a n l:=
 ⟨h.len,fun i x hx=>by
  obtain⟨b,o,pa,pn,pc,ha,c0,c1,c2,c3,hp,hh,hB,s2⟩:=h.cell i x hx;exact⟨b,o,pa,pn,pc,ha,c0,c1,c2,c3,hp.mono hb,hh.mono hb,by omega,s2.mono hb⟩⟩
theorem ItsAt.grown (h:ItsAt B w a n l)(hg:w.grownBy w' (some r))(hr:r<B):ItsAt B w' a n l:=
 ⟨h.len,fun i x hx=>by
  obtain⟨b,o,pa,pn,pc,ha,c0,c1,hp,hh,hB,hA,s1,s2⟩:=h.cell i x hx;exact⟨b,o,pa,pn,pc,ha,hg.cell c0 (by simp;omega),hg.cell c1 (by simp;omega),hp.grown hg (fun ad hb=>by have:=hA ad hb;omega),hh,hB,hA,s1.grown hg hr,s2.grown hg hr⟩⟩
theorem bO_ (h:ItsAt B w a n l)(hk:k<n):
  ∃ b o x pa pn pc,a=some ⟨b,o,none⟩∧l[k]?=some x∧w.cell? ⟨b,o+k*2,none⟩=some (.string x.nm)∧w.cell? ⟨b,o+k*2+1,none⟩=some (.slice pa pn pc)∧PtsAt w pa pn x.ps∧Hd B pa pn pc∧B<=b∧∀ ad,pa=some ad->B<=ad.block:=by
 have hx:l[k]?=some (l[k]'(by rw[h.len];exact hk)):=by simp[h.len,hk]
 obtain⟨b,o,pa,pn,pc,ha,c0,c1,hp,hh,hB,hA,_⟩:=h.cell k _ hx;exact⟨b,o,_,pa,pn,pc,ha,hx,c0,c1,hp,hh,hB,hA⟩
end
end Go.Proofs.YtbbhcnjhohidnaaGreatDoor
