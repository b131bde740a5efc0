/- ownerOk of the program, l3Owner of the model. -/
import Derived.Test.YtbbhcnjhohidnaaGreatDoorU04
set_option maxHeartbeats 20000000
set_option maxRecDepth 100000
namespace Go.Proofs.YtbbhcnjhohidnaaGreatDoor
section
open Go Go.RowKit Go.BigFrame Tryz
variable{c:Array Value}{l:List Ct}{t:TypeId}{u x y z:Value}{w w1:World}
def AK (o:Ow):Bool:=decide (1<=o.a)&&decide (o.a<=400)&&decide (1<=o.v)&&decide (o.v<=1000000000)&&nameB o.f
theorem bp_ (p:Ow)(w:World)(hd:p.f.size<=9223372036854775807):
  Calls prog 171 #[.agg #[.int .i64 p.a,.int .i64 p.v,.string p.f]] w fun e w'=>e=.returned (.bool (AK p))∧Below w.heap.size w w':=by
 by_cases h:1<=p.a∧p.a<=400∧1<=p.v∧p.v<=1000000000
 ·have ha:Hid (AK p=nameB p.f):=by show _=_;simp[AK,h]
  generalize AK p=R at *;obtain⟨a,v,f⟩:=p;simp only at *;obtain⟨h1,h2,h3,h4⟩:=h;go_enter func171,ntmps171
  go_wp2_with fail
  refine (bT_ f _ hd).mono ?_;rintro e w1 ⟨rfl,rfl⟩;go_wp2;go_returns;go_light;exact⟨ac_ ha.out.symm,by go_grown⟩
 ·have ha:Hid (AK p=false):=by show _=_;simp[AK];omega
  generalize AK p=R at *;obtain⟨a,v,f⟩:=p;simp only at *;go_enter func171,ntmps171;go_wp2
  all_goals go_returns
  all_goals go_light
  all_goals exact⟨ac_ ha.out.symm,by go_grown⟩
theorem bq_ (p:Ow)(w:World)(hd:p.f.size<=9223372036854775807):
  Calls prog 148 #[.agg #[.int .i64 p.a,.int .i64 p.v,.string p.f]] w fun e w'=>e=.returned (.bool (AK p))∧Below w.heap.size w w':=by
 have ha:Hid (AK p=((decide (1<=p.a)&&decide (p.a<=400))&&(decide (1<=p.v)&&decide (p.v<=1000000000))&&nameB p.f)):=by show _=_;simp[AK,ZO]
 generalize AK p=R at *;obtain⟨a,v,f⟩:=p;simp only at *
 cases h1:(decide (1<=a)&&decide (a<=400))
 ·go_enter func148,ntmps148
  go_wp2_with fail
  refine (ai_ _ _ _ _).mono ?_;rintro e w1 ⟨rfl,rfl⟩;rw[h1];go_wp2;go_returns;go_light;exact⟨ac_ (by rw[ha.out,h1];rfl),by go_grown⟩
 ·cases h2:(decide (1<=v)&&decide (v<=1000000000))
  ·go_enter func148,ntmps148
   go_wp2_with fail
   refine (ai_ _ _ _ _).mono ?_;rintro e w1 ⟨rfl,rfl⟩;rw[h1]
   go_wp2_with fail
   refine (ai_ _ _ _ _).mono ?_;rintro e w1 ⟨rfl,rfl⟩;rw[h2];go_wp2;go_returns;go_light;exact⟨ac_ (by rw[ha.out,h1,h2];rfl),by go_grown⟩
  ·go_enter func148,ntmps148
   go_wp2_with fail
   refine (ai_ _ _ _ _).mono ?_;rintro e w1 ⟨rfl,rfl⟩;rw[h1]
   go_wp2_with fail
   refine (ai_ _ _ _ _).mono ?_;rintro e w1 ⟨rfl,rfl⟩;rw[h2]
   go_wp2_with fail
   refine (aq_ f _ hd).mono ?_;rintro e w1 ⟨rfl,rfl⟩;go_wp2;go_returns;go_light;exact⟨ac_ (by rw[ha.out,h1,h2];rfl),by go_grown⟩
def Bp (l:List Ct):Prop:=∀ c∈l,c.o.f.size<=9223372036854775807
theorem Bp.at (h:Bp l){k:Nat}{e:Ct}(he:l[k]?=some e):e.o.f.size<=9223372036854775807:=h e (Zc he)
def BN (c:Ct):Bool:=AK c.o&&decide (-1000<=c.n)&&decide (c.n<=1000)&&!(c.n==0)
def AU (l:List Ct):Bool:=decide (l.length<=200)&&l.all BN
theorem EJ (hb:Below (w.alloc (.cells #[x,y,z,u] t)).heap.size (w.alloc (.cells #[x,y,z,u] t)) w1):
  w1.cell? ⟨w.heap.size,0,none⟩=some x∧w1.cell? ⟨w.heap.size,1,none⟩=some y∧w1.cell? ⟨w.heap.size,2,none⟩=some z∧w1.cell? ⟨w.heap.size,3,none⟩=some u∧Below w.heap.size w w1∧w.heap.size<w1.heap.size:=
 ⟨Ab hb (Yv _ _ _ 0),Ab hb (Yv _ _ _ 1),Ab hb (Yv _ _ _ 2),Ab hb (Yv _ _ _ 3),
  ((Yg _ _).alloc (Zd _) _).trans (hb.mono (by simp)),by have:=hb.size;simp at this;omega⟩
theorem gG_ (a:Option Addr)(n cap:Nat)(l:List Ct)(w:World)(h:AM w a n l)(hstr:Bp l)(hn:n<=4194304):
  Calls prog 144 #[.slice a n cap] w fun e w'=>e=.returned (.bool (AU l))∧Below w.heap.size w w':=by
 have hc:Hid (l.length=n):=h.len;by_cases h2:n<=200
 ·have hb:Hid (AU l=(l.drop 0).all BN):=by show _=_;simp[AU,hc.out,h2]
  go_enter func144,ntmps144
  go_wp2_with fail
  go_loopw [10] (fun ix wr=>∃ (k:Nat),k<=n∧ix=.int .i64 k∧Hid (AU l=(l.drop k).all BN)∧Below w.heap.size w wr) (fun ix _=>n-(intOf ix).toNat)
  case atStart=>exact⟨0,Zg _,rfl,hb,Yg _ _⟩
  case round=>
   obtain⟨k,hk,rfl,hI,hB⟩:=hrel;by_cases hlt:k<n
   ·obtain⟨b,o,p,rfl,hp,c0,c1,c2,c3⟩:=aN_ (h.below hB) hlt;have hd:Hid (l.drop k=p::l.drop (k+1)):=al_ hp;have hg:=hstr.at hp;clear hp;have hr:=hB.size
    cases hf:AK p.o
    ·go_wp2_with fail
     refine (bp_ p.o _ hg).mono ?_;rintro e w1 ⟨rfl,he⟩;obtain⟨x0,x1,x2,x3,ha,hj⟩:=EJ he;rw[hf];go_wp2;go_returns;go_light;refine⟨ac_ ?_,Aa hB ha⟩;rw[hI.out,hd.out];simp[BN,hf]
    ·by_cases hok:-1000<=p.n∧p.n<=1000∧p.n≠0
     ·obtain⟨hl,hm,hh⟩:=hok;have hz:(p.n==0)=false:=ZV.2 hh
      go_wp2_with fail
      refine (bp_ p.o _ hg).mono ?_;rintro e w1 ⟨rfl,he⟩;obtain⟨x0,x1,x2,x3,ha,hj⟩:=EJ he;rw[hf];go_wp2;go_roundw
      case rel=>exact⟨k+1,by omega,by go_num,by show _=_;rw[hI.out,hd.out];simp[BN,hf,hl,hm,hh],Aa hB ha⟩
      case measure=>simp[intOf];omega
     ·have hz:Hid (BN p=false):=by
       show _=_;by_cases hz:p.n=0
       ·simp[BN,hz]
       ·simp[BN,hz];omega
      go_wp2_with fail
      refine (bp_ p.o _ hg).mono ?_;rintro e w1 ⟨rfl,he⟩;obtain⟨x0,x1,x2,x3,ha,hj⟩:=EJ he;rw[hf]
      cases ho:(p.n==0)
      all_goals (have hq:=ho;simp at hq)
      all_goals go_wp2
      all_goals go_returns
      all_goals go_light
      all_goals refine⟨ac_ ?_,Aa hB ha⟩
      all_goals (rw[hI.out,hd.out];simp[hz.out])
   ·obtain rfl:k=n:=by omega
    go_wp2;go_returns;go_light;refine⟨ac_ ?_,hB⟩;rw[hI.out,Ze (Zm hc.out)];rfl
 ·have hb:Hid (AU l=false):=by show _=_;have:=hc.out;simp[AU];omega
  go_enter func144,ntmps144;go_wp2;go_returns;go_light;exact⟨ac_ hb.out.symm,Yg _ _⟩
theorem em_ (a:Option Addr)(n cap:Nat)(l:List Ct)(w:World)(h:AM w a n l)(hstr:Bp l)(hn:n<=4194304):
  Calls prog 104 #[.slice a n cap] w fun e w'=>e=.returned (.bool (AU l))∧Below w.heap.size w w':=by
 have he:Hid (l.length=n):=h.len;by_cases h2:n<=200
 ·have hc:Hid (AU l=(l.drop 0).all BN):=by show _=_;simp[AU,he.out,h2]
  go_enter func104,ntmps104
  go_wp2_with fail
  go_loopw [3] (fun ix wr=>∃ (k:Nat),k<=n∧ix=.int .i64 k∧Hid (AU l=(l.drop k).all BN)∧Below w.heap.size w wr) (fun ix _=>n-(intOf ix).toNat)
  case atStart=>exact⟨0,Zg _,rfl,hc,Yg _ _⟩
  case round=>
   obtain⟨k,hk,rfl,hI,hB⟩:=hrel;by_cases hlt:k<n
   ·obtain⟨b,o,p,rfl,hp,c0,c1,c2,c3⟩:=aN_ (h.below hB) hlt;have hd:Hid (l.drop k=p::l.drop (k+1)):=al_ hp;have hg:=hstr.at hp;clear hp;have hh:=hB.size
    cases hb:AK p.o
    ·go_wp2_with fail
     refine (bq_ p.o _ hg).mono ?_;rintro e w1 ⟨rfl,ha⟩;rw[hb];go_wp2;go_returns;go_light;refine⟨ac_ ?_,Aa hB ha⟩;rw[hI.out,hd.out];simp[BN,hb]
    ·cases hf:(decide (-1000<=p.n)&&decide (p.n<=1000))
     ·go_wp2_with fail
      refine (bq_ p.o _ hg).mono ?_;rintro e w1 ⟨rfl,ha⟩;rw[hb];have e3:=Ab ha c3
      go_wp2_with fail
      refine (ai_ _ _ _ _).mono ?_;rintro e w2 ⟨rfl,rfl⟩;rw[hf];go_wp2;go_returns;go_light;refine⟨ac_ ?_,Aa hB ha⟩;rw[hI.out,hd.out];simp only[List.all_cons,BN,hb,Zp,hf,Zr]
     ·cases hz:(p.n==0)
      all_goals
       go_wp2_with fail
       refine (bq_ p.o _ hg).mono ?_;rintro e w1 ⟨rfl,ha⟩;rw[hb];have e3:=Ab ha c3
       go_wp2_with fail
       refine (ai_ _ _ _ _).mono ?_;rintro e w2 ⟨rfl,rfl⟩;rw[hf];go_wp2
      ·go_roundw
       case rel=>exact⟨k+1,by omega,by go_num,by show _=_;rw[hI.out,hd.out];simp only[List.all_cons,BN,hb,Zp,hf,hz,Bool.not_false],Aa hB ha⟩
       case measure=>simp[intOf];omega
      ·go_returns;go_light;refine⟨ac_ ?_,Aa hB ha⟩;rw[hI.out,hd.out];simp only[List.all_cons,BN,hb,Zp,hf,hz,Bool.not_true,Zr]
   ·obtain rfl:k=n:=by omega
    go_wp2;go_returns;go_light;refine⟨ac_ ?_,hB⟩;rw[hI.out,Ze (Zm he.out)];rfl
 ·have hc:Hid (AU l=false):=by show _=_;have:=he.out;simp[AU];omega
  go_enter func104,ntmps104;go_wp2;go_returns;go_light;exact⟨ac_ hc.out.symm,Yg _ _⟩
def Cp (c:Ct):Bool:=AK c.o&&decide (1<=c.n)&&decide (c.n<=1000)
def rgo:Option Ct->List Ct->Bool
 |_,[]=>true
 |none,c::r=>Cp c&&rgo (some c) r
 |some q,c::r=>Cp c&&Bd q.o c.o&&rgo (some c) r
def AH (l:List Ct):Bool:=decide (l.length<=200)&&rgo none l
def aheadC (l:List Ct)(k:Nat):Option Ct:=if k=0 then none else l[k-1]?
theorem gH_ (l:List Ct):aheadC l 0=none:=rfl
theorem bU_ (l:List Ct)(k:Nat):aheadC l (k+1)=l[k]?:=by simp[aheadC]
theorem cK_ (a:Option Addr)(n cap:Nat)(l:List Ct)(w:World)(h:AM w a n l)(hstr:Bp l)(hn:n<=4194304):
  Calls prog 143 #[.slice a n cap] w fun e w'=>e=.returned (.bool (AH l))∧Below w.heap.size w w':=by
 have he:Hid (l.length=n):=h.len;by_cases h2:n<=200
 ·have hc:Hid (AH l=rgo (aheadC l 0) (l.drop 0)):=by show _=_;simp[AH,he.out,h2,aheadC]
  go_enter func143,ntmps143
  go_wp2_with fail
  go_loopw [10] (fun ix wr=>∃ (k:Nat),k<=n∧ix=.int .i64 k∧Hid (AH l=rgo (aheadC l k) (l.drop k))∧Below w.heap.size w wr) (fun ix _=>n-(intOf ix).toNat)
  case atStart=>exact⟨0,Zg _,rfl,hc,Yg _ _⟩
  case round=>
   obtain⟨k,hk,rfl,hI,hB⟩:=hrel;by_cases hlt:k<n
   ·obtain⟨b,o,p,rfl,hp,c0,c1,c2,c3⟩:=aN_ (h.below hB) hlt;have hd:Hid (l.drop k=p::l.drop (k+1)):=al_ hp;have hq:Hid (l[k]?=some p):=hp;have hg:=hstr.at hp;clear hp;have hE:=hB.size
    cases hf:AK p.o
    ·go_wp2_with fail
     refine (bp_ p.o _ hg).mono ?_;rintro e w1 ⟨rfl,hb⟩;obtain⟨x0,x1,x2,x3,ha,hl⟩:=EJ hb;rw[hf];go_wp2;go_returns;go_light;refine⟨ac_ ?_,Aa hB ha⟩;rw[hI.out,hd.out];cases aheadC l k<;>simp[rgo,Cp,hf]
    ·by_cases hok:1<=p.n∧p.n<=1000
     ·obtain⟨hu,hv⟩:=hok;have ht:Hid (Cp p=true):=by show _=_;simp[Cp,hf,hu,hv]
      rcases k with _ | j
      ·simp only[Nat.zero_mul,Nat.add_zero] at c0 c1 c2 c3
       go_wp2_with fail
       refine (bp_ p.o _ hg).mono ?_;rintro e w1 ⟨rfl,hb⟩;obtain⟨x0,x1,x2,x3,ha,hl⟩:=EJ hb;rw[hf]
       go_wp2_with fail
       go_quiet (fail)
       go_wp2;go_roundw
       case rel=>exact⟨1,by omega,by go_num,by show _=_;rw[hI.out,hd.out,gH_,bU_,hq.out];simp[rgo,ht.out],Aa hB (Aa ha (AZ _ _))⟩
       case measure=>simp[intOf];omega
      ·obtain⟨b',o',q,hr,hs,d0,d1,d2,d3⟩:=aN_ (h.below hB) (k:=j) (by omega);obtain⟨rfl,rfl⟩:b=b'∧o=o':=by simpa using hr
       have ho:Hid (aheadC l (j+1)=some q):=by show _=_;rw[bU_];exact hs
       clear hs hr
       cases hh:Bd q.o p.o
       all_goals
        go_wp2_with fail
        refine (bp_ p.o _ hg).mono ?_;rintro e w1 ⟨rfl,hb⟩;obtain⟨x0,x1,x2,x3,ha,hl⟩:=EJ hb;rw[hf];replace d0:=Ab ha d0;replace d1:=Ab ha d1;replace d2:=Ab ha d2;have hj:(0:Int)<(j:Int)+1:=by omega
        have hw:(j:Int)<n:=by omega
        have hy:(0:Int)<=j:=by omega
        have hC:IntKind.i64.wrap ((j:Int)+1-1)=(j:Int):=by rw[Ys];omega
        have hD:IntKind.i64.wrap (j:Int)=(j:Int):=by rw[Ys];omega
        clear c0 c1 c2 c3
        go_wp2_with fail
        have g0:=Ad x0;have g1:=Ad x1;have g2:=Ad x2;have g3:=Ad d0;have g4:=Ad d1;have g5:=Ad d2;have hA:=aA_ w1;refine ab_ (by kernel_rfl) (by kernel_rfl) ?_
        repeat (go_big_quiet_step (first | (go_at_call 172;have qq:=gU_ q.o p.o;rw[hh] at qq;exact an_ (qq _))))
        refine wpQuiet_nil ?_;intro w2 hx;have hm:=ah_ hx;clear hx;go_wp2
       ·go_returns;go_light;refine⟨ac_ ?_,Aa hB (Aa ha hm)⟩;rw[hI.out,hd.out,ho.out];simp[rgo,hh]
       ·go_roundw
        case rel=>exact⟨j+2,by omega,by go_num,by show _=_;rw[hI.out,hd.out,ho.out,bU_,hq.out];simp[rgo,hh,ht.out],Aa hB (Aa ha hm)⟩
        case measure=>simp[intOf];omega
     ·have hz:Hid (Cp p=false):=by show _=_;simp[Cp];omega
      go_wp2_with fail
      refine (bp_ p.o _ hg).mono ?_;rintro e w1 ⟨rfl,hb⟩;obtain⟨x0,x1,x2,x3,ha,hl⟩:=EJ hb;rw[hf];go_wp2
      all_goals go_returns
      all_goals go_light
      all_goals refine⟨ac_ ?_,Aa hB ha⟩
      all_goals (rw[hI.out,hd.out];cases aheadC l k<;>simp[rgo,hz.out])
   ·obtain rfl:k=n:=by omega
    go_wp2;go_returns;go_light;refine⟨ac_ ?_,hB⟩;rw[hI.out,Ze (Zm he.out)];cases aheadC l k<;>rfl
 ·have hc:Hid (AH l=false):=by show _=_;have:=he.out;simp[AH];omega
  go_enter func143,ntmps143;go_wp2;go_returns;go_light;exact⟨ac_ hc.out.symm,Yg _ _⟩
theorem bV_ (a:Option Addr)(n cap:Nat)(l:List Ct)(w:World)(h:AM w a n l)(hstr:Bp l)(hn:n<=4194304):
  Calls prog 103 #[.slice a n cap] w fun e w'=>e=.returned (.bool (AH l))∧Below w.heap.size w w':=by
 have he:Hid (l.length=n):=h.len;by_cases h2:n<=200
 ·have hc:Hid (AH l=rgo (aheadC l 0) (l.drop 0)):=by show _=_;simp[AH,he.out,h2,aheadC]
  go_enter func103,ntmps103
  go_wp2_with fail
  go_loopw [3] (fun ix wr=>∃ (k:Nat),k<=n∧ix=.int .i64 k∧Hid (AH l=rgo (aheadC l k) (l.drop k))∧Below w.heap.size w wr) (fun ix _=>n-(intOf ix).toNat)
  case atStart=>exact⟨0,Zg _,rfl,hc,Yg _ _⟩
  case round=>
   obtain⟨k,hk,rfl,hI,hB⟩:=hrel;by_cases hlt:k<n
   ·obtain⟨b,o,p,rfl,hp,c0,c1,c2,c3⟩:=aN_ (h.below hB) hlt;have hd:Hid (l.drop k=p::l.drop (k+1)):=al_ hp;have hq:Hid (l[k]?=some p):=hp;have hg:=hstr.at hp;clear hp;have hu:=hB.size;have hs:(k:Int)<n:=by omega
    have ht:(0:Int)<=k:=by omega
    cases hb:AK p.o
    ·go_wp2_with fail
     have g0:=Ad c0;have g1:=Ad c1;have g2:=Ad c2;have g3:=Ad c3;have hj:=aA_ wr;refine ab_ (by kernel_rfl) (by kernel_rfl) ?_
     repeat (go_big_quiet_step (first | (go_at_call 148;have qq:=fun w=>bq_ p.o w hg;rw[hb] at qq;exact an_ (qq _))))
     refine wpQuiet_nil ?_;intro w2 hx;have ha:=ah_ hx;clear hx;go_wp2;go_returns;go_light;refine⟨ac_ ?_,Aa hB ha⟩;rw[hI.out,hd.out];cases aheadC l k<;>simp[rgo,Cp,hb]
    ·cases hf:(decide (1<=p.n)&&decide (p.n<=1000))
     ·have hz:Hid (Cp p=false):=by show _=_;simp only[Cp,hb,Zp,hf]
      go_wp2_with fail
      have g0:=Ad c0;have g1:=Ad c1;have g2:=Ad c2;have g3:=Ad c3;have hj:=aA_ wr;refine ab_ (by kernel_rfl) (by kernel_rfl) ?_
      repeat (go_big_quiet_step (first | (go_at_call 148;have qq:=fun w=>bq_ p.o w hg;rw[hb] at qq;exact an_ (qq _)) | (go_at_call 52;have qq:=ai_ p.n 1 1000;rw[hf] at qq;exact am_ (qq _))))
      refine wpQuiet_nil ?_;intro w2 hx;have ha:=ah_ hx;clear hx;go_wp2;go_returns;go_light;refine⟨ac_ ?_,Aa hB ha⟩;rw[hI.out,hd.out];cases aheadC l k<;>simp[rgo,hz.out]
     ·have hr:Hid (Cp p=true):=by show _=_;simp only[Cp,hb,Zp,hf]
      rcases k with _ | j
      ·simp only[Nat.zero_mul,Nat.add_zero] at c0 c1 c2 c3
       go_wp2_with fail
       have g0:=Ad c0;have g1:=Ad c1;have g2:=Ad c2;have g3:=Ad c3;have hj:=aA_ wr;refine ab_ (by kernel_rfl) (by kernel_rfl) ?_
       repeat (go_big_quiet_step (first | (go_at_call 148;have qq:=fun w=>bq_ p.o w hg;rw[hb] at qq;exact an_ (qq _)) | (go_at_call 52;have qq:=ai_ p.n 1 1000;rw[hf] at qq;exact am_ (qq _))))
       refine wpQuiet_nil ?_;intro w2 hx;have ha:=ah_ hx;clear hx;go_wp2;go_roundw
       case rel=>exact⟨1,by omega,by go_num,by show _=_;rw[hI.out,hd.out,gH_,bU_,hq.out];simp[rgo,hr.out],Aa hB ha⟩
       case measure=>simp[intOf];omega
      ·obtain⟨b',o',q,hm,ho,d0,d1,d2,d3⟩:=aN_ (h.below hB) (k:=j) (by omega);obtain⟨rfl,rfl⟩:b=b'∧o=o':=by simpa using hm
       have hl:Hid (aheadC l (j+1)=some q):=by show _=_;rw[bU_];exact ho
       clear ho hm d3
       cases hh:Bd q.o p.o
       all_goals
        go_wp2_with fail
        have g0:=Ad c0;have g1:=Ad c1;have g2:=Ad c2;have g3:=Ad c3;have g4:=Ad d0;have g5:=Ad d1;have g6:=Ad d2;have hj:=aA_ wr;refine ab_ (by kernel_rfl) (by kernel_rfl) ?_
        repeat (go_big_quiet_step (first | (go_at_call 148;have qq:=fun w=>bq_ p.o w hg;rw[hb] at qq;exact an_ (qq _)) | (go_at_call 52;have qq:=ai_ p.n 1 1000;rw[hf] at qq;exact am_ (qq _)) | (go_at_call 149;have qq:=aF_ q.o p.o;rw[hh] at qq;exact an_ (qq _))))
        refine wpQuiet_nil ?_;intro w2 hx;have ha:=ah_ hx;clear hx;go_wp2
       ·go_returns;go_light;refine⟨ac_ ?_,Aa hB ha⟩;rw[hI.out,hd.out,hl.out];simp[rgo,hh]
       ·go_roundw
        case rel=>exact⟨j+2,by omega,by go_num,by show _=_;rw[hI.out,hd.out,hl.out,bU_,hq.out];simp[rgo,hh,hr.out],Aa hB ha⟩
        case measure=>simp[intOf];omega
   ·obtain rfl:k=n:=by omega
    go_wp2;go_returns;go_light;refine⟨ac_ ?_,hB⟩;rw[hI.out,Ze (Zm he.out)];cases aheadC l k<;>rfl
 ·have hc:Hid (AH l=false):=by show _=_;have:=he.out;simp[AH];omega
  go_enter func103,ntmps103;go_wp2;go_returns;go_light;exact⟨ac_ hc.out.symm,Yg _ _⟩
def Ap (refs late:List Ct):Option (List Ct):=if AH refs=true∧AU late=true then (if AH (AQ refs late)=true then some (AQ refs late) else none) else none
theorem br_ (h:AU l=true):l.length<=200∧∀ x∈l,-1000<=x.n∧x.n<=1000:=by
 simp only[AU,Zf,ZU,List.all_eq_true] at h;refine⟨h.1,fun x hx=>?_⟩
 have:=h.2 x hx
 simp only[BN,Zf,ZU] at this;exact⟨this.1.1.2,this.1.2⟩
theorem j5_ {c:Ct}(hc:c.o.f.size<=9223372036854775807):∀ {l:List Ct},Bp l->Bp (Bm l c)
 |[],_=>by intro x hx;simp[Bm] at hx;subst hx;exact hc
 |y::r,h=>by
  have hy:=h y (by simp);have hr:Bp r:=fun x hx=>h x (by simp[hx]);unfold Bm;split
  ·intro x hx;rcases Zn.1 hx with rfl | hx
   ·exact hy
   ·exact j5_ hc hr x hx
  ·split
   ·split
    ·intro x hx;rcases Zn.1 hx with rfl | hx
     ·exact hc
     ·exact hr x hx
    ·exact hr
   ·intro x hx;rcases Zn.1 hx with rfl | hx
    ·exact hc
    ·exact h x hx
theorem ht_:∀ {more l:List Ct},Bp l->Bp more->Bp (AQ l more)
 |[],l,h,_=>h
 |c::r,l,h,hm=>ht_ (more:=r) (l:=Bm l c) (j5_ (hm c (by simp)) h) (fun x hx=>hm x (by simp[hx]))
theorem g1_:∀ {l:List Ct} {q:Option Ct},rgo q l=true->∀ x∈l,Cp x=true
 |[],_,_=>by simp
 |c::r,q,h=>by
  have h2:Cp c=true∧rgo (some c) r=true:=by
   cases q
   ·simpa only[rgo,Zf] using h
   ·simp only[rgo,Zf] at h;exact⟨h.1.1,h.2⟩
  intro x hx;rcases Zn.1 hx with rfl | hx
  ·exact h2.1
  ·exact g1_ h2.2 x hx
theorem a0_ (h:AH l=true):l.length<=200∧∀ x∈l,1<=x.n∧x.n<=1000:=by
 simp only[AH,Zf,ZU] at h;refine⟨h.1,fun x hx=>?_⟩
 have:=g1_ h.2 x hx
 simp only[Cp,Zf,ZU] at this;exact⟨this.1.2,this.2⟩
def GU (B:Nat)(e:Ending)(w':World):Option (List Ct)->Prop
 |none=>e=.returned (.tuple #[.slice none 0 0,.bool false])
 |some L=>∃ a n cap,e=.returned (.tuple #[.slice a n cap,.bool true])∧Ac Ct.cs 4 107 w' B a n cap L
theorem je_ (a:Option Addr)(n cap:Nat)(l:List Ct)(a':Option Addr)(n' cap':Nat)(more:List Ct)(w:World)(h:AM w a n l)(ha1:∀ ad,a=some ad->ad.spot=none)(ha2:a=none->cap=0)(h':AM w a' n' more)(hstr:Bp l)(hstr':Bp more)(hn:n<=4194304)(hn':n'<=4194304):
  Calls prog 54 #[.slice a n cap,.slice a' n' cap'] w fun e w'=>GU w.heap.size e w' (Ap l more)∧Below w.heap.size w w':=by
 have hs:Hid (l.length=n):=h.len;have ho:Hid (more.length=n'):=h'.len
 cases hh:AH l
 ·have hf:Ap l more=none:=by simp[Ap,hh]
  rw[hf];go_enter func54,ntmps54
  go_wp2_with fail
  refine (bV_ a n cap l _ h hstr hn).mono ?_;rintro e w1 ⟨rfl,he⟩;rw[hh];go_wp2;go_returns;go_light;exact⟨rfl,he⟩
 ·cases ha:AU more
  ·have hf:Ap l more=none:=by simp[Ap,ha]
   rw[hf];go_enter func54,ntmps54
   go_wp2_with fail
   refine (bV_ a n cap l _ h hstr hn).mono ?_;rintro e w1 ⟨rfl,he⟩;rw[hh]
   go_wp2_with fail
   refine (em_ a' n' cap' more _ (h'.below he) hstr' hn').mono ?_;rintro e w2 ⟨rfl,hj⟩;rw[ha];have hc:=Aa he hj;go_wp2;go_returns;go_light;exact⟨rfl,hc⟩
  ·obtain⟨hl,hb⟩:=a0_ hh;obtain⟨hw,ht⟩:=br_ ha;have hu:n<=200:=by rw[<-hs.out];exact hl
   have hm:n'<=200:=by rw[<-ho.out];exact hw
   have hv:=ht_ hstr hstr'
   cases hg:AH (AQ l more)
   ·have hf:Ap l more=none:=by simp[Ap,hh,ha,hg]
    rw[hf];clear hf;go_enter func54,ntmps54
    go_wp2_with fail
    refine (bV_ a n cap l _ h hstr hn).mono ?_;rintro e w1 ⟨rfl,he⟩;rw[hh]
    go_wp2_with fail
    refine (em_ a' n' cap' more _ (h'.below he) hstr' hn').mono ?_;rintro e w2 ⟨rfl,hj⟩;rw[ha];have hc:=Aa he hj
    go_wp2_with fail
    refine (hs_ a n cap l a' n' cap' more w2 (h.below hc) ha1 ha2 (h'.below hc) hu hm (fun x hx=>by have:=hb x hx;omega) ht).mono ?_;rintro e w4 ⟨⟨a2,n2,cap2,rfl,hy,R2⟩,hp⟩;have hq:=Aa hc hp;replace R2:=R2.mono hc.size
    go_wp2_with fail
    refine (bV_ a2 n2 cap2 (AQ l more) _ R2.sl hv (by omega)).mono ?_;rintro e w6 ⟨rfl,hk⟩;rw[hg];have hr:=Aa hq hk;replace R2:=R2.below hk;go_wp2;go_returns;go_light;exact⟨rfl,hr⟩
   ·have hf:Ap l more=some (AQ l more):=by simp[Ap,hh,ha,hg]
    rw[hf];clear hf;go_enter func54,ntmps54
    go_wp2_with fail
    refine (bV_ a n cap l _ h hstr hn).mono ?_;rintro e w1 ⟨rfl,he⟩;rw[hh]
    go_wp2_with fail
    refine (em_ a' n' cap' more _ (h'.below he) hstr' hn').mono ?_;rintro e w2 ⟨rfl,hj⟩;rw[ha];have hc:=Aa he hj
    go_wp2_with fail
    refine (hs_ a n cap l a' n' cap' more w2 (h.below hc) ha1 ha2 (h'.below hc) hu hm (fun x hx=>by have:=hb x hx;omega) ht).mono ?_;rintro e w4 ⟨⟨a2,n2,cap2,rfl,hy,R2⟩,hp⟩;have hq:=Aa hc hp;replace R2:=R2.mono hc.size
    go_wp2_with fail
    refine (bV_ a2 n2 cap2 (AQ l more) _ R2.sl hv (by omega)).mono ?_;rintro e w6 ⟨rfl,hk⟩;rw[hg];have hr:=Aa hq hk;replace R2:=R2.below hk;go_wp2;go_returns;go_light;exact⟨⟨a2,n2,cap2,rfl,R2⟩,hr⟩
theorem jf_ (p:Ow)(w:World):
  Calls prog 115 #[.agg #[.int .i64 p.a,.int .i64 p.v,.string p.f]] w fun e w'=>e=.returned (.agg #[.int .i64 p.a,.int .i64 p.v,.string p.f])∧Below w.heap.size w w':=by
 obtain⟨a,v,f⟩:=p;go_enter func115,ntmps115;go_wp2;go_returns;go_light;refine⟨rfl,by go_grown⟩
theorem GS {d:Array Value}{t1 t2:TypeId}(hb:Below (((w.alloc (.cells #[x,y,z,u] t)).alloc (.cells c t1)).alloc (.cells d t2)).heap.size (((w.alloc (.cells #[x,y,z,u] t)).alloc (.cells c t1)).alloc (.cells d t2)) w1):
  w1.cell? ⟨w.heap.size,3,none⟩=some u∧Blk w1 (w.heap.size+1) c t1∧Blk w1 (w.heap.size+1+1) d t2∧Below w.heap.size w w1:=by
 refine⟨Ab hb (Ah _ (Ah _ (Yv _ _ _ 3))),?_,?_,Aa (by go_grown) hb⟩
 ·have:=((Blk.new (w.alloc (.cells #[x,y,z,u] t)) c t1).alloc (.cells d t2)).below hb
  simpa using this
 ·have:=(Blk.new ((w.alloc (.cells #[x,y,z,u] t)).alloc (.cells c t1)) d t2).below hb
  simpa using this
theorem Blk.other {b:Nat}(h:Blk w b c t)(p:Addr)(v:Value)(hp:b≠p.block):Blk (w.setCell p v) b c t:=by
 unfold Blk at *;rw[Below.heap_setCell _ _ _ _ (by simpa using hp)];exact h
theorem hu_ (p:Ct)(w:World):
  Calls prog 66 #[.agg #[.int .i64 p.o.a,.int .i64 p.o.v,.string p.o.f,.int .i64 p.n]] w fun e w'=>e=.returned (.agg #[.int .i64 p.o.a,.int .i64 p.o.v,.string p.o.f,.int .i64 p.n])∧Below w.heap.size w w':=by
 obtain⟨⟨a,v,f⟩,n⟩:=p;go_enter func66,ntmps66
 go_wp2_with fail
 refine (jf_ ⟨a,v,f⟩ _).mono ?_;rintro e w1 ⟨rfl,hc⟩;obtain⟨c3,ha,hb,hf⟩:=GS hc;clear hc;have g0:=ha.frozen 0;have g1:=ha.frozen 1;have g2:=ha.frozen 2;have g3:=ha.frozen 3;have z0:w1.cell? ⟨w.heap.size+1,0,none⟩=some (.int .i64 0):=ha.cell 0;have z1:w1.cell? ⟨w.heap.size+1,1,none⟩=some (.int .i64 0):=ha.cell 1;have z2:w1.cell? ⟨w.heap.size+1,2,none⟩=some (.string ⟨#[]⟩):=ha.cell 2;have z3:w1.cell? ⟨w.heap.size+1,3,none⟩=some (.int .i64 0):=ha.cell 3;have f0:=hb.frozen 0;have f1:=hb.frozen 1;have f2:=hb.frozen 2;have f3:=hb.frozen 3;have y0:w1.cell? ⟨w.heap.size+1+1,0,none⟩=some (.int .i64 0):=hb.cell 0;have y1:w1.cell? ⟨w.heap.size+1+1,1,none⟩=some (.int .i64 0):=hb.cell 1;have y2:w1.cell? ⟨w.heap.size+1+1,2,none⟩=some (.string ⟨#[]⟩):=hb.cell 2;have y3:w1.cell? ⟨w.heap.size+1+1,3,none⟩=some (.int .i64 0):=hb.cell 3
 have he:Blk ((((w1.setCell ⟨w.heap.size+1+1,0,none⟩ (.int .i64 a)).setCell ⟨w.heap.size+1+1,1,none⟩ (.int .i64 v)).setCell ⟨w.heap.size+1+1,2,none⟩ (.string f)).setCell ⟨w.heap.size+1+1,3,none⟩ (.int .i64 n)) (w.heap.size+1) #[.int .i64 0,.int .i64 0,.string ⟨#[]⟩,.int .i64 0] 107:=
  (((ha.other ⟨w.heap.size+1+1,0,none⟩ (.int .i64 a) (by simp)).other ⟨w.heap.size+1+1,1,none⟩ (.int .i64 v) (by simp)).other ⟨w.heap.size+1+1,2,none⟩ (.string f) (by simp)).other ⟨w.heap.size+1+1,3,none⟩ (.int .i64 n) (by simp)
 have hg:Below w.heap.size w ((((((((w1.setCell ⟨w.heap.size+1+1,0,none⟩ (.int .i64 a)).setCell ⟨w.heap.size+1+1,1,none⟩ (.int .i64 v)).setCell ⟨w.heap.size+1+1,2,none⟩ (.string f)).setCell ⟨w.heap.size+1+1,3,none⟩ (.int .i64 n)).setCell ⟨w.heap.size+1,0,none⟩ (.int .i64 a)).setCell ⟨w.heap.size+1,1,none⟩ (.int .i64 v)).setCell ⟨w.heap.size+1,2,none⟩ (.string f)).setCell ⟨w.heap.size+1,3,none⟩ (.int .i64 n)):=by
  refine (((((((hf.setCell ?_ _).setCell ?_ _).setCell ?_ _).setCell ?_ _).setCell ?_ _).setCell ?_ _).setCell ?_ _).setCell ?_ _
  all_goals (simp;try omega)
 have hW:Blk ((((((((w1.setCell ⟨w.heap.size+1+1,0,none⟩ (.int .i64 a)).setCell ⟨w.heap.size+1+1,1,none⟩ (.int .i64 v)).setCell ⟨w.heap.size+1+1,2,none⟩ (.string f)).setCell ⟨w.heap.size+1+1,3,none⟩ (.int .i64 n)).setCell ⟨w.heap.size+1,0,none⟩ (.int .i64 a)).setCell ⟨w.heap.size+1,1,none⟩ (.int .i64 v)).setCell ⟨w.heap.size+1,2,none⟩ (.string f)).setCell ⟨w.heap.size+1,3,none⟩ (.int .i64 n)) (w.heap.size+1) #[.int .i64 a,.int .i64 v,.string f,.int .i64 n] 107:=by
  have:=(((he.set 0 (.int .i64 a)).set 1 (.int .i64 v)).set 2 (.string f)).set 3 (.int .i64 n)
  simpa using this
 clear hb ha he;go_wp2;generalize ((((((((w1.setCell ⟨w.heap.size+1+1,0,none⟩ (.int .i64 a)).setCell ⟨w.heap.size+1+1,1,none⟩ (.int .i64 v)).setCell ⟨w.heap.size+1+1,2,none⟩ (.string f)).setCell ⟨w.heap.size+1+1,3,none⟩ (.int .i64 n)).setCell ⟨w.heap.size+1,0,none⟩ (.int .i64 a)).setCell ⟨w.heap.size+1,1,none⟩ (.int .i64 v)).setCell ⟨w.heap.size+1,2,none⟩ (.string f)).setCell ⟨w.heap.size+1,3,none⟩ (.int .i64 n))=W8 at *;refine YW (results_cell_row rfl _ W8 (w.heap.size+1) _ _ _ _ rfl hW underlying107 rfl (by kernel_rfl)) rfl ?_;exact⟨rfl,hg⟩
theorem jg_ (p q:Ow)(w:World):
  Calls prog 138 #[.agg #[.int .i64 p.a,.int .i64 p.v,.string p.f],.agg #[.int .i64 q.a,.int .i64 q.v,.string q.f]] w fun e w'=>e=.returned (.bool (Bo p q))∧Below w.heap.size w w':=by
 obtain⟨a,v,f⟩:=p;obtain⟨b,u,g⟩:=q;go_enter func138,ntmps138;go_wp2
 all_goals go_returns
 all_goals go_light
 all_goals refine⟨?_,by go_grown⟩
 all_goals simp_all [Bo]
def Do (p q:Ct):Bool:=Bo p.o q.o&&p.n==q.n
theorem hv_ (p q:Ct)(w:World):
  Calls prog 88 #[.agg #[.int .i64 p.o.a,.int .i64 p.o.v,.string p.o.f,.int .i64 p.n],.agg #[.int .i64 q.o.a,.int .i64 q.o.v,.string q.o.f,.int .i64 q.n]] w fun e w'=>e=.returned (.bool (Do p q))∧Below w.heap.size w w':=by
 cases he:Bo p.o q.o
 all_goals
  have ha:Hid (Do p q=(Bo p.o q.o&&p.n==q.n)):=rfl;generalize Do p q=R at *;obtain⟨⟨a,v,f⟩,n⟩:=p;obtain⟨⟨b,u,g⟩,m⟩:=q;simp only at *;go_enter func88,ntmps88
  go_wp2_with fail
  refine (jg_ ⟨a,v,f⟩ ⟨b,u,g⟩ _).mono ?_;rintro e w1 ⟨rfl,hb⟩;rw[he];have c3:w1.cell? ⟨w.heap.size,3,none⟩=some (.int .i64 n):=Ab hb (Ah _ (by simp));have d3:w1.cell? ⟨w.heap.size+1,3,none⟩=some (.int .i64 m):=Ab hb (by simp);have hc:Below w.heap.size w w1:=Aa (by go_grown) hb;clear hb
 ·go_wp2;go_returns;go_light;exact⟨ac_ (by rw[ha.out,he];rfl),hc⟩
 ·go_wp2
  all_goals go_returns
  all_goals go_light
  all_goals refine⟨ac_ ?_,hc⟩
  all_goals (rw[ha.out,he];simp_all)
theorem fN_ (p:Ow)(left:Int)(w:World)(h0:0<=left)(h1:left<=1048576)(hd:p.f.size<=9223372036854775807):
  Calls prog 98 #[.agg #[.int .i64 p.a,.int .i64 p.v,.string p.f],.int .i64 left] w fun e w'=>e=.returned (.int .i64 (if left-p.f.size<0 then -1 else left-p.f.size))∧Below w.heap.size w w':=by
 obtain⟨a,v,d⟩:=p;simp only at hd ⊢;by_cases h:left-(d.size:Int)<0
 ·rw[if_pos h];go_enter func98,ntmps98;go_wp2;go_returns;go_light;exact⟨rfl,by go_grown⟩
 ·rw[if_neg h];go_enter func98,ntmps98;go_wp2;go_returns;go_light;exact⟨rfl,by go_grown⟩
def szC (left:Int)(p:Ct):Int:=if left-p.o.f.size<0 then -1 else left-p.o.f.size
theorem en_ (p:Ct)(left:Int)(w:World)(h0:0<=left)(h1:left<=1048576)(hd:p.o.f.size<=9223372036854775807):
  Calls prog 50 #[.agg #[.int .i64 p.o.a,.int .i64 p.o.v,.string p.o.f,.int .i64 p.n],.int .i64 left] w fun e w'=>e=.returned (.int .i64 (szC left p))∧Below w.heap.size w w':=by
 by_cases h:left-(p.o.f.size:Int)<0
 ·have hf:Hid (szC left p=-1):=by show _=_;simp[szC];omega
  generalize szC left p=R at *;obtain⟨⟨a,v,d⟩,n⟩:=p;simp only at *;go_enter func50,ntmps50
  go_wp2_with fail
  refine (fN_ ⟨a,v,d⟩ left _ h0 h1 hd).mono ?_;rintro e w1 ⟨rfl,ha⟩;have hb:Below w.heap.size w w1:=Aa (by go_grown) ha;clear ha;simp only[if_pos h];go_wp2;go_returns;go_light;exact⟨a4_ hf.out.symm,hb⟩
 ·have hf:Hid (szC left p=left-p.o.f.size):=by show _=_;simp[szC];omega
  generalize szC left p=R at *;obtain⟨⟨a,v,d⟩,n⟩:=p;simp only at *;go_enter func50,ntmps50
  go_wp2_with fail
  refine (fN_ ⟨a,v,d⟩ left _ h0 h1 hd).mono ?_;rintro e w1 ⟨rfl,ha⟩;have hb:Below w.heap.size w w1:=Aa (by go_grown) ha;clear ha;simp only[if_neg (Int.not_lt.2 h)];go_wp2;go_returns;go_light;exact⟨a4_ hf.out.symm,hb⟩
def Dt (n:Nat)(l:List Ct):Prop:=n<=1048576∧∀ e∈l,e.o.f.size<=1048576
theorem Dt.strs {n:Nat}(h:Dt n l):Bp l:=fun e he=>by have:=h.2 e he;omega
theorem d1_ (a:Option Addr)(n cap:Nat)(l:List Ct)(L:Int)(w:World)(h:AM w a n l)(hstr:Bp l)(hn:n<=9223372036854775807)(hL0:0<=L)(hL:L<=1048576):
  Calls prog 25 #[.slice a n cap,.int .i64 L] w fun e w'=>(∃ r:Int,e=.returned (.int .i64 r)∧(r=-1∨(0<=r∧r<=1048576∧Dt n l)))∧Below w.heap.size w w':=by
 have hc:Hid (l.length=n):=h.len;by_cases hb:L-(n:Int)<0
 ·go_enter func25,ntmps25;go_wp2;go_returns;go_light;exact⟨⟨_,rfl,.inl rfl⟩,Yg _ _⟩
 ·go_enter func25,ntmps25
  go_wp2_with fail
  go_loopw [1,5] (fun lf ix wr=>∃ (k:Nat) (r:Int),k<=n∧ix=.int .i64 k∧lf=.int .i64 r∧0<=r∧r<=1048576∧Hid (∀ i e,i<k->l[i]?=some e->e.o.f.size<=1048576)∧Below w.heap.size w wr) (fun _ ix _=>n-(intOf ix).toNat)
  case atStart=>exact⟨0,_,Zg _,rfl,rfl,by omega,by omega,fun i e hi=>by omega,Yg _ _⟩
  case round=>
   obtain⟨k,r,hk,rfl,rfl,hg,hh,hI,hB⟩:=hrel;by_cases hlt:k<n
   ·obtain⟨b,o,p,rfl,hp,c0,c1,c2,c3⟩:=aN_ (h.below hB) hlt;have hl:Hid (l[k]?=some p):=hp;have hj:=hstr.at hp;clear hp;by_cases hs:r-(p.o.f.size:Int)<0
    ·have hf:Hid (szC r p=-1):=by show _=_;simp[szC];omega
     go_wp2_with fail
     refine (en_ p r _ hg hh hj).mono ?_;rintro e w1 ⟨rfl,ha⟩;rw[hf.out];go_wp2;go_returns;go_light;exact⟨⟨_,rfl,.inl rfl⟩,Aa hB ha⟩
    ·have hf:Hid (szC r p=r-p.o.f.size):=by show _=_;simp[szC];omega
     go_wp2_with fail
     refine (en_ p r _ hg hh hj).mono ?_;rintro e w1 ⟨rfl,ha⟩;rw[hf.out];go_wp2;go_roundw
     case rel=>
      refine⟨k+1,r-p.o.f.size,by omega,by go_num,rfl,by omega,by omega,?_,Aa hB ha⟩;intro i e hi he;by_cases hik:i=k
      ·subst hik;rw[hl.out] at he;obtain rfl:=Zi he;omega
      ·exact hI.out i e (by omega) he
     case measure=>simp[intOf];omega
   ·obtain rfl:k=n:=by omega
    go_wp2;go_returns;go_light;refine⟨⟨_,rfl,.inr ⟨hg,hh,by omega,?_⟩⟩,hB⟩;intro e he;obtain⟨i,hi⟩:=List.mem_iff_getElem?.1 he;refine hI.out i e ?_ hi
    have:=(Zb.1 hi).1
    rw[hc.out] at this;exact this
def A8:List Ct->List Ct->Bool
 |[],[]=>true
 |p::r,q::s=>Do p q&&A8 r s
 |_,_=>false
theorem hw_ (l:List Ct):A8 l l=true:=by
 induction l with
 |nil=>rfl
 |cons p r ih=>simp[A8,Do,Bo,ih]
theorem gg_:∀ {m:List Ct},l.length≠m.length->A8 l m=false:=by
 induction l with
 |nil=>intro m h;cases m<;>simp[A8] at *
 |cons p r ih=>intro m h;cases m<;>simp[A8] at *;exact fun _=>ih h
theorem d2_ (a:Option Addr)(n cap:Nat)(l:List Ct)(a':Option Addr)(n' cap':Nat)(m:List Ct)(w:World)(h:AM w a n l)(h':AM w a' n' m)(hn:n<=4194304)(hn':n'<=4194304):
  Calls prog 37 #[.slice a n cap,.slice a' n' cap'] w fun e w'=>e=.returned (.bool (A8 l m))∧Below w.heap.size w w':=by
 have hb:Hid (l.length=n):=h.len;have ha:Hid (m.length=n'):=h'.len;by_cases hc:n=n'
 ·subst hc;have hh:((n:Int) != (n:Int))=false:=by simp
  go_enter func37,ntmps37
  go_wp2_with fail
  go_loopw [5] (fun ix wr=>∃ (k:Nat),k<=n∧ix=.int .i64 k∧Hid (A8 l m=A8 (l.drop k) (m.drop k))∧Below w.heap.size w wr) (fun ix _=>n-(intOf ix).toNat)
  case atStart=>exact⟨0,Zg _,rfl,rfl,Yg _ _⟩
  case round=>
   obtain⟨k,hk,rfl,hI,hB⟩:=hrel;by_cases hlt:k<n
   ·obtain⟨b,o,p,rfl,hp,c0,c1,c2,c3⟩:=aN_ (h.below hB) hlt;obtain⟨b',o',q,rfl,hq,d0,d1,d2,d3⟩:=aN_ (h'.below hB) hlt;have hd:Hid (l.drop k=p::l.drop (k+1)):=al_ hp;have hg:Hid (m.drop k=q::m.drop (k+1)):=al_ hq;clear hp hq;have hj:(k:Int)<n:=by omega
    have hl:(0:Int)<=k:=by omega
    cases he:Do p q
    all_goals
     go_wp2_with fail
     have g0:=Ad c0;have g1:=Ad c1;have g2:=Ad c2;have g3:=Ad c3;have g4:=Ad d0;have g5:=Ad d1;have g6:=Ad d2;have g7:=Ad d3;have hc:=aA_ wr;refine ab_ (by kernel_rfl) (by kernel_rfl) ?_
     repeat (go_big_quiet_step (first | (go_at_call 88;have qq:=hv_ p q;rw[he] at qq;exact an_ (qq _))))
     refine wpQuiet_nil ?_;intro w2 hx;have hf:=ah_ hx;clear hx;go_wp2
    ·go_returns;go_light;refine⟨ac_ ?_,Aa hB hf⟩;rw[hI.out,hd.out,hg.out];simp only[A8,he,Zr]
    ·go_roundw
     case rel=>exact⟨k+1,by omega,by go_num,by show _=_;rw[hI.out,hd.out,hg.out];simp only[A8,he,Zp],Aa hB hf⟩
     case measure=>simp[intOf];omega
   ·obtain rfl:k=n:=by omega
    go_wp2;go_returns;go_light;refine⟨ac_ ?_,hB⟩;rw[hI.out,Ze (Zm hb.out),Ze (Zm ha.out)];rfl
 ·have hh:((n:Int) != (n':Int))=true:=by simp;omega
  go_enter func37,ntmps37;go_wp2;go_returns;go_light;refine⟨ac_ ?_,Yg _ _⟩;rw[gg_ (by rw[hb.out,ha.out];exact hc)]
end
section
open Go Go.RowKit
structure It where
 nm:ByteArray
 ps:List Pt
end
section
open Go Go.RowKit
variable{B B' k n r:Nat}{a:Option Addr}{w w':World}
variable{l:List It}
structure Vo where
 id:Int
 nm:ByteArray
 fx:Bool
 its:List It
structure Po where
 size:Int
 next:Int
 ex:List Ex
 vs:List Vo
 rf:List Ct
 lt:List Ct
def Hd (B:Nat)(a:Option Addr)(n cap:Nat):Prop:=n<=cap∧cap<=9223372036854775807∧(0<B->(a=none->cap=0)∧∀ ad,a=some ad->ad.spot=none)
theorem Hd.mono {cap:Nat}(h:Hd B a n cap)(hb:B'<=B):Hd B' a n cap:=⟨h.1,h.2.1,fun h0=>h.2.2 (by omega)⟩
theorem gh_ (b n:Nat)(h:n<=9223372036854775807):Hd B (some ⟨b,0,none⟩) n n:=⟨Zd _,h,fun _=>⟨(fun e=>by cases e),fun ad e=>by cases e;rfl⟩⟩
def Sf (B:Nat)(w:World)(a:Option Addr):Prop:=0<B->∀ ad,a=some ad->B<=ad.block∧∃ c t,Blk w ad.block c t
theorem Sf.below (h:Sf B w a)(hb:Below w.heap.size w w'):Sf B w' a:=fun h0 ad e=>by
 obtain⟨h1,c,t,h2⟩:=h h0 ad e;exact⟨h1,c,t,h2.below hb⟩
theorem Sf.mono (h:Sf B w a)(hb:B'<=B):Sf B' w a:=fun h0 ad e=>by
 obtain⟨h1,r⟩:=h (by omega) ad e;exact⟨by omega,r⟩
theorem Sf.grown (h:Sf B w a)(hg:w.grownBy w' (some r))(hr:r<B):Sf B w' a:=fun h0 ad e=>by
 obtain⟨h1,c,t,h2⟩:=h h0 ad e;exact⟨h1,c,t,h2.grown hg (by simp only[ne_eq];omega)⟩
theorem gi_ {b:Nat}{c:Array Value}{t:TypeId}(h:Blk w b c t)(hb:B<=b):Sf B w (some ⟨b,0,none⟩):=fun _ ad e=>by cases e;exact⟨hb,c,t,h⟩
theorem eO_:Sf 0 w a:=fun h=>absurd h (by omega)
structure AJ (B:Nat)(w:World)(a:Option Addr)(n:Nat)(l:List It):Prop where
 len:l.length=n
 cell:∀ i x,l[i]?=some x->∃ b o pa pn pc,a=some ⟨b,o,none⟩∧w.cell? ⟨b,o+i*2,none⟩=some (.string x.nm)∧w.cell? ⟨b,o+i*2+1,none⟩=some (.slice pa pn pc)∧AE w pa pn x.ps∧Hd B pa pn pc∧B<=b∧(∀ ad,pa=some ad->B<=ad.block)∧Sf B w pa∧Sf B w a
structure A0 (B:Nat)(w:World)(a:Option Addr)(n:Nat)(l:List Vo):Prop where
 len:l.length=n
 cell:∀ i x,l[i]?=some x->∃ b o pa pn pc,a=some ⟨b,o,none⟩∧w.cell? ⟨b,o+i*4,none⟩=some (.int .i64 x.id)∧w.cell? ⟨b,o+i*4+1,none⟩=some (.string x.nm)∧w.cell? ⟨b,o+i*4+2,none⟩=some (.bool x.fx)∧w.cell? ⟨b,o+i*4+3,none⟩=some (.slice pa pn pc)∧AJ B w pa pn x.its∧Hd B pa pn pc∧B<=b∧Sf B w a
theorem AJ.below (h:AJ B w a n l)(hb:Below w.heap.size w w'):AJ B w' a n l:=
 ⟨h.len,fun i x hx=>by
  obtain⟨b,o,pa,pn,pc,ha,c0,c1,hp,hh,hB,hA,s1,s2⟩:=h.cell i x hx;exact⟨b,o,pa,pn,pc,ha,Ab hb c0,Ab hb c1,hp.below hb,hh,hB,hA,s1.below hb,s2.below hb⟩⟩
theorem A0.below {l:List Vo}(h:A0 B w a n l)(hb:Below w.heap.size w w'):A0 B w' a n l:=
 ⟨h.len,fun i x hx=>by
  obtain⟨b,o,pa,pn,pc,ha,c0,c1,c2,c3,hp,hh,hB,s2⟩:=h.cell i x hx;exact⟨b,o,pa,pn,pc,ha,Ab hb c0,Ab hb c1,Ab hb c2,Ab hb c3,hp.below hb,hh,hB,s2.below hb⟩⟩
theorem AJ.mono (h:AJ B w a n l)(hb:B'<=B):AJ B' w a n l:=
 ⟨h.len,fun i x hx=>by
  obtain⟨b,o,pa,pn,pc,ha,c0,c1,hp,hh,hB,hA,s1,s2⟩:=h.cell i x hx;exact⟨b,o,pa,pn,pc,ha,c0,c1,hp,hh.mono hb,by omega,fun ad hc=>by have:=hA ad hc;omega,s1.mono hb,s2.mono hb⟩⟩
theorem A0.mono {l:List Vo}(h:A0 B w a n l)(hb:B'<=B):A0 B' w a n l:=
 ⟨h.len,fun i x hx=>by
  obtain⟨b,o,pa,pn,pc,ha,c0,c1,c2,c3,hp,hh,hB,s2⟩:=h.cell i x hx;exact⟨b,o,pa,pn,pc,ha,c0,c1,c2,c3,hp.mono hb,hh.mono hb,by omega,s2.mono hb⟩⟩
theorem AJ.grown (h:AJ B w a n l)(hg:w.grownBy w' (some r))(hr:r<B):AJ B w' a n l:=
 ⟨h.len,fun i x hx=>by
  obtain⟨b,o,pa,pn,pc,ha,c0,c1,hp,hh,hB,hA,s1,s2⟩:=h.cell i x hx;exact⟨b,o,pa,pn,pc,ha,hg.cell c0 (by simp;omega),hg.cell c1 (by simp;omega),hp.grown hg (fun ad hb=>by have:=hA ad hb;omega),hh,hB,hA,s1.grown hg hr,s2.grown hg hr⟩⟩
theorem bO_ (h:AJ B w a n l)(hk:k<n):
  ∃ b o x pa pn pc,a=some ⟨b,o,none⟩∧l[k]?=some x∧w.cell? ⟨b,o+k*2,none⟩=some (.string x.nm)∧w.cell? ⟨b,o+k*2+1,none⟩=some (.slice pa pn pc)∧AE w pa pn x.ps∧Hd B pa pn pc∧B<=b∧∀ ad,pa=some ad->B<=ad.block:=by
 have hx:l[k]?=some (l[k]'(by rw[h.len];exact hk)):=by simp[h.len,hk]
 obtain⟨b,o,pa,pn,pc,ha,c0,c1,hp,hh,hB,hA,_⟩:=h.cell k _ hx;exact⟨b,o,_,pa,pn,pc,ha,hx,c0,c1,hp,hh,hB,hA⟩
theorem b5_ {l:List Vo}(h:A0 B w a n l)(hk:k<n):
  ∃ b o x pa pn pc,a=some ⟨b,o,none⟩∧l[k]?=some x∧w.cell? ⟨b,o+k*4,none⟩=some (.int .i64 x.id)∧w.cell? ⟨b,o+k*4+1,none⟩=some (.string x.nm)∧w.cell? ⟨b,o+k*4+2,none⟩=some (.bool x.fx)∧w.cell? ⟨b,o+k*4+3,none⟩=some (.slice pa pn pc)∧AJ B w pa pn x.its∧Hd B pa pn pc∧B<=b:=by
 have hx:l[k]?=some (l[k]'(by rw[h.len];exact hk)):=by simp[h.len,hk]
 obtain⟨b,o,pa,pn,pc,ha,c0,c1,c2,c3,hp,hh,hB,_⟩:=h.cell k _ hx;exact⟨b,o,_,pa,pn,pc,ha,hx,c0,c1,c2,c3,hp,hh,hB⟩
def Fy (l:List It):Prop:=∀ x∈l,x.nm.size<=9223372036854775807∧x.ps.length<=4194304
def Df (l:List Vo):Prop:=∀ v∈l,v.nm.size<=9223372036854775807∧v.its.length<=4194304∧Fy v.its
def igo (e:List Ex):Option It->List It->Bool
 |_,[]=>true
 |q,x::r=>nameB x.nm&&(match q with | none=>true | some p=>bl p.nm.toList x.nm.toList)&&(Ar x.ps e).isSome&&igo e (some x) r
def itemsB (l:List It)(e:List Ex):Bool:=decide (l.length<=5)&&igo e none l
def vgo (next:Int)(e:List Ex):Int->List Vo->Bool
 |_,[]=>true
 |last,v::r=>decide (last<v.id)&&decide (v.id<next)&&nameB v.nm&&itemsB v.its e&&vgo next e v.id r
def CC (next:Int)(l:List Vo)(e:List Ex):Bool:=decide (l.length<=6)&&vgo next e 0 l
def AR (vol:Int)(f:ByteArray)(ps:List Pt):List Ct:=(ps.filter (fun p=>!(p.a==0))).map (fun p=>⟨⟨p.a,vol,f⟩,1⟩)
def Dv (v:Vo):List Ct:=v.its.flatMap (fun x=>AR v.id x.nm x.ps)
def A6 (l:List Vo):List Ct:=l.flatMap Dv
def Az (l:List Vo):List Ct:=AQ [] (A6 l)
def Cs (l:List Vo):Bool:=decide ((l.map (·.nm.toList)).Nodup)
def Ca (e:List Ex)(l:List Ct):Bool:=e.all (fun x=>l.any (fun c=>c.o.a==x.a))&&l.all (fun c=>e.any (fun x=>x.a==c.o.a))
def Aj (p:Po):Bool:=Ak p.size p.ex&&decide (1<=p.next)&&decide (p.next<=1000000000)&&CC p.next p.vs p.ex&&Cs p.vs&&(match Ap p.rf p.lt with | none=>false | some s=>A8 s (Az p.vs))&&Ca p.ex (p.rf++p.lt)
end
section
open Go Go.RowKit Go.BigFrame Tryz
variable{l:List It}{r:Nat}{w w':World}
def FS (l:List It):Prop:=∀ x∈l,x.nm.size<=9223372036854775807∧x.ps.length<=9223372036854775807
def GL (l:List Vo):Prop:=∀ v∈l,v.nm.size<=9223372036854775807∧v.its.length<=9223372036854775807∧FS v.its
def Ed (n:Nat)(l:List It):Prop:=n<=1048576∧∀ x∈l,x.nm.size<=1048576∧x.ps.length<=1048576
def Fn (n:Nat)(l:List Vo):Prop:=n<=1048576∧∀ v∈l,v.nm.size<=1048576∧Ed v.its.length v.its
theorem jh_ (a:Option Addr)(n cap:Nat)(L:Int)(w:World)(hn:n<=9223372036854775807)(h0:0<=L)(h1:L<=1048576):
  Calls prog 173 #[.slice a n cap,.int .i64 L] w fun e w'=>(∃ r:Int,e=.returned (.int .i64 r)∧(r=-1∨(0<=r∧r<=1048576∧n<=1048576)))∧w'=w:=by
 by_cases h:L-(n:Int)<0
 ·go_enter func173,ntmps173;go_wp2;go_returns;exact⟨⟨-1,rfl,.inl rfl⟩,rfl⟩
 ·go_enter func173,ntmps173;go_wp2;go_returns;exact⟨⟨L-n,rfl,.inr ⟨by omega,by omega,by omega⟩⟩,rfl⟩
end
end Go.Proofs.YtbbhcnjhohidnaaGreatDoor
