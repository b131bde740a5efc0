/- Counts added up: a list in order with no nought is told by its sums. -/
import Derived.Test.YteejlahappbalaaGreatDoorU01
set_option maxHeartbeats 20000000
set_option maxRecDepth 100000
namespace Go.Proofs.YteejlahappbalaaGreatDoor
section
open Go Go.RowKit Go.BigFrame Tryz
theorem gT_ (p q:Ow)(w:World):
  Calls prog 119 #[.agg #[.int .i64 p.a,.int .i64 p.v,.string p.f],.agg #[.int .i64 q.a,.int .i64 q.v,.string q.f]] w fun e w'=>e=.returned (.int .i64 (Gn p q))∧Below w.heap.size w w':=by
 have ha:Hid (Gn p q=or3 (Hl p.a q.a) (Hl p.v q.v) (K8 p.f q.f)):=rfl;generalize Gn p q=R at *;obtain⟨a,v,f⟩:=p;obtain⟨b,u,g⟩:=q;simp only at ha;go_enter func119,ntmps119;go_wp2_with fail;have x0:((w.alloc (.cells #[.int .i64 a,.int .i64 v,.string f] 68)).alloc (.cells #[.int .i64 b,.int .i64 u,.string g] 68)).cell? ⟨w.heap.size,0,none⟩=some (.int .i64 a):=Aj _ sK;have x1:((w.alloc (.cells #[.int .i64 a,.int .i64 v,.string f] 68)).alloc (.cells #[.int .i64 b,.int .i64 u,.string g] 68)).cell? ⟨w.heap.size,1,none⟩=some (.int .i64 v):=Aj _ sK;have x2:((w.alloc (.cells #[.int .i64 a,.int .i64 v,.string f] 68)).alloc (.cells #[.int .i64 b,.int .i64 u,.string g] 68)).cell? ⟨w.heap.size,2,none⟩=some (.string f):=Aj _ sK;have y0:((w.alloc (.cells #[.int .i64 a,.int .i64 v,.string f] 68)).alloc (.cells #[.int .i64 b,.int .i64 u,.string g] 68)).cell? ⟨w.heap.size+1,0,none⟩=some (.int .i64 b):=sK;have y1:((w.alloc (.cells #[.int .i64 a,.int .i64 v,.string f] 68)).alloc (.cells #[.int .i64 b,.int .i64 u,.string g] 68)).cell? ⟨w.heap.size+1,1,none⟩=some (.int .i64 u):=sK;have y2:((w.alloc (.cells #[.int .i64 a,.int .i64 v,.string f] 68)).alloc (.cells #[.int .i64 b,.int .i64 u,.string g] 68)).cell? ⟨w.heap.size+1,2,none⟩=some (.string g):=sK;have hb:Below w.heap.size w ((w.alloc (.cells #[.int .i64 a,.int .i64 v,.string f] 68)).alloc (.cells #[.int .i64 b,.int .i64 u,.string g] 68)):=sM;generalize (w.alloc (.cells #[.int .i64 a,.int .i64 v,.string f] 68)).alloc (.cells #[.int .i64 b,.int .i64 u,.string g] 68)=W0 at *;go_region_held3 (fun u'=>u'.cell? ⟨w.heap.size,0,none⟩=some (.int .i64 a)∧u'.cell? ⟨w.heap.size,1,none⟩=some (.int .i64 v)∧u'.cell? ⟨w.heap.size,2,none⟩=some (.string f)∧u'.cell? ⟨w.heap.size+1,0,none⟩=some (.int .i64 b)∧u'.cell? ⟨w.heap.size+1,1,none⟩=some (.int .i64 u)∧u'.cell? ⟨w.heap.size+1,2,none⟩=some (.string g)) (go_keep)
  (first | (go_at_call 162;refine (dZ_ _ _ _).mono ?_;rintro e w2 ⟨rfl,rfl⟩) | (go_at_call 163;refine (d0_ _ _ _).mono ?_;rintro e w2 ⟨rfl,rfl⟩) | (go_at_call 161;refine (mx_ (Hl a b) (Hl v u) (K8 f g) W0.heap.size 3 _ (OI W0 _ _ _ _).1 (OI W0 _ _ _ _).2.1 (OI W0 _ _ _ _).2.2).mono ?_;rintro e w2 ⟨rfl,rfl⟩))
 go_wp2;go_returns;go_light;exact⟨a4_ ha.out.symm,(hb.alloc hb.size _).drew⟩
theorem gU_ (p q:Ow)(w:World):
  Calls prog 116 #[.agg #[.int .i64 p.a,.int .i64 p.v,.string p.f],.agg #[.int .i64 q.a,.int .i64 q.v,.string q.f]] w fun e w'=>e=.returned (.bool (Bl p q))∧Below w.heap.size w w':=by
 have ha:Hid (Bl p q=decide (Gn p q<0)):=(i6_ p q).symm;obtain⟨a,v,f⟩:=p;obtain⟨b,u,g⟩:=q;go_enter func116,ntmps116;go_wp2_with fail;refine (gT_ ⟨a,v,f⟩ ⟨b,u,g⟩ _).mono ?_;rintro e w1 ⟨rfl,hb⟩;have hc:Below w.heap.size w w1:=Aa sM hb;go_wp2;go_returns;go_light;exact⟨ac_ ha.out.symm,hc⟩
end
section
open Go Go.RowKit Go.BigFrame Tryz
variable{size:Int}{B k:Nat}{a:Option Addr}{w:World}
def Uz:Option Addr->Option Nat
 |none=>none
 |some ad=>some ad.block
theorem jc_ {w1 w':World}{row:Option Nat}(hb:Below w.heap.size w w1)(hg:w1.grownBy w' row)(hn:∀ k,row=some k->w.heap.size<=k):Below w.heap.size w w':=hb.grown hg hb.size hn
theorem pl_ (h:∀ ad,a=some ad->B<=ad.block):∀ k,Uz a=some k->B<=k:=by
 intro k hk
 cases a with
 |none=>cases hk
 |some ad=>have:=h ad rfl;simp[Uz] at hk;omega
theorem bT_ (d:ByteArray)(w:World)(hd:d.size<=9223372036854775807):
  Calls prog 58 #[.string d] w fun e w'=>e=.returned (.bool (nameB d))∧w'=w:=by
 by_cases h1:1<=d.size∧d.size<=8
 ·have qd:Hid (nameB d=(d.data.toList.drop 0).all LL):=by show _=_;simp[nameB,h1]
  obtain⟨h1,ha⟩:=h1;go_enter func58,ntmps58;go_wp2_with fail;go_loop [14] (fun ix=>∃ (k:Nat),k<=d.size∧ix=.int .i64 k∧Hid (nameB d=(d.data.toList.drop k).all LL)) (fun ix=>d.size-(intOf ix).toNat)
  case atStart=>exact⟨0,Zg _,rfl,qd⟩
  case round=>
   exact lV
 ·have qd:Hid (nameB d=false):=by show _=_;simp[nameB];omega
  go_enter func58,ntmps58;exact mp
end
section
open Go Go.RowKit Go.BigFrame Tryz
variable{l:List Ct}{t:TypeId}{u x y z:Value}{w w1:World}
theorem bp_ (p:Ow)(w:World)(hd:p.f.size<=9223372036854775807):
  Calls prog 115 #[.agg #[.int .i64 p.a,.int .i64 p.v,.string p.f]] w fun e w'=>e=.returned (.bool (AO p))∧Below w.heap.size w w':=by
 by_cases h:1<=p.a∧p.a<=400∧1<=p.v∧p.v<=1000000000
 ·have ha:Hid (AO p=nameB p.f):=by show _=_;simp[AO,h]
  generalize AO p=R at *;obtain⟨a,v,f⟩:=p;simp only at *;obtain⟨h1,h2,h3,h4⟩:=h;go_enter func115,ntmps115;go_wp2_with fail;refine (bT_ f _ hd).mono ?_;rintro e w1 ⟨rfl,rfl⟩;go_wp2;go_returns;go_light;exact⟨ac_ ha.out.symm,sM⟩
 ·have ha:Hid (AO p=false):=by show _=_;simp[AO];omega
  generalize AO p=R at *;obtain⟨a,v,f⟩:=p;simp only at *;go_enter func115,ntmps115;go_wp2;(all_goals go_returns);(all_goals go_light);all_goals exact⟨ac_ ha.out.symm,sM⟩
theorem Mt (hb:Below (w.alloc (.cells #[x,y,z,u] t)).heap.size (w.alloc (.cells #[x,y,z,u] t)) w1):
  w1.cell? ⟨w.heap.size,0,none⟩=some x∧w1.cell? ⟨w.heap.size,1,none⟩=some y∧w1.cell? ⟨w.heap.size,2,none⟩=some z∧w1.cell? ⟨w.heap.size,3,none⟩=some u∧Below w.heap.size w w1∧w.heap.size<w1.heap.size:=
 ⟨Ab hb (Yv _ _ _ 0),Ab hb (Yv _ _ _ 1),Ab hb (Yv _ _ _ 2),Ab hb (Yv _ _ _ 3),
  ((Yg _ _).alloc (Zd _) _).trans (hb.mono sK),by have:=hb.size;simp at this;omega⟩
theorem gG_ (a:Option Addr)(n cap:Nat)(l:List Ct)(w:World)(h:A8 w a n l)(hstr:Cx l)(hn:n<=4194304):
  Calls prog 61 #[.slice a n cap] w fun e w'=>e=.returned (.bool (AQ l))∧Below w.heap.size w w':=by
 have qg:Hid (l.length=n):=h.len;by_cases h2:n<=200
 ·have qd:Hid (AQ l=(l.drop 0).all CG):=by show _=_;simp[AQ,qg.out,h2]
  go_enter func61,ntmps61;go_wp2_with fail;go_loopw [10] (fun ix wr=>∃ (k:Nat),k<=n∧ix=.int .i64 k∧Hid (AQ l=(l.drop k).all CG)∧Below w.heap.size w wr) (fun ix _=>n-(intOf ix).toNat)
  case atStart=>exact⟨0,Zg _,rfl,qd,Yg _ _⟩
  case round=>
   obtain⟨k,hk,rfl,hI,hB⟩:=hrel;by_cases hlt:k<n
   ·obtain⟨b,o,p,rfl,hp,c0,c1,c2,c3⟩:=aN_ (h.below hB) hlt;have hd:Hid (l.drop k=p::l.drop (k+1)):=al_ hp;have he:=hstr.at hp;clear hp;have ho:=hB.size
    cases hc:AO p.o
    ·go_wp2_with fail;refine (bp_ p.o _ he).mono ?_;rintro e w1 ⟨rfl,hb⟩;obtain⟨x0,x1,x2,x3,ha,hg⟩:=Mt hb;rw[hc];go_wp2;go_returns;go_light;refine⟨ac_ ?_,Aa hB ha⟩;rw[hI.out,hd.out];simp[CG,hc]
    ·by_cases hok:-1000<=p.n∧p.n<=1000∧p.n≠0
     ·obtain⟨hh,hj,hf⟩:=hok;have hz:(p.n==0)=false:=ZV.2 hf;go_wp2_with fail;refine (bp_ p.o _ he).mono ?_;rintro e w1 ⟨rfl,hb⟩;obtain⟨x0,x1,x2,x3,ha,hg⟩:=Mt hb;rw[hc];go_wp2;go_roundw
      case rel=>exact⟨k+1,sH,sQ,by show _=_;rw[hI.out,hd.out];simp[CG,hc,hh,hj,hf],Aa hB ha⟩
      case measure=>simp[intOf];omega
     ·have hz:Hid (CG p=false):=by
       show _=_;by_cases hz:p.n=0
       ·simp[CG,hz]
       ·simp[CG,hz];omega
      go_wp2_with fail;refine (bp_ p.o _ he).mono ?_;rintro e w1 ⟨rfl,hb⟩;obtain⟨x0,x1,x2,x3,ha,hg⟩:=Mt hb;rw[hc]
      cases hl:(p.n==0);(all_goals (have hm:=hl;simp at hm));(all_goals go_wp2);(all_goals go_returns);(all_goals go_light);(all_goals refine⟨ac_ ?_,Aa hB ha⟩);all_goals (rw[hI.out,hd.out];simp[hz.out])
   ·obtain rfl:k=n:=sH;go_wp2;go_returns;go_light;refine⟨ac_ ?_,hB⟩;exact ms
 ·have qd:Hid (AQ l=false):=by show _=_;have:=qg.out;simp[AQ];omega
  go_enter func61,ntmps61;exact mL
theorem cK_ (a:Option Addr)(n cap:Nat)(l:List Ct)(w:World)(h:A8 w a n l)(hstr:Cx l)(hn:n<=4194304):
  Calls prog 60 #[.slice a n cap] w fun e w'=>e=.returned (.bool (AB l))∧Below w.heap.size w w':=by
 have qg:Hid (l.length=n):=h.len;by_cases h2:n<=200
 ·have qd:Hid (AB l=rgo (aheadC l 0) (l.drop 0)):=by show _=_;simp[AB,qg.out,h2,aheadC]
  go_enter func60,ntmps60;go_wp2_with fail;go_loopw [10] (fun ix wr=>∃ (k:Nat),k<=n∧ix=.int .i64 k∧Hid (AB l=rgo (aheadC l k) (l.drop k))∧Below w.heap.size w wr) (fun ix _=>n-(intOf ix).toNat)
  case atStart=>exact⟨0,Zg _,rfl,qd,Yg _ _⟩
  case round=>
   obtain⟨k,hk,rfl,hI,hB⟩:=hrel;by_cases hlt:k<n
   ·obtain⟨b,o,p,rfl,hp,c0,c1,c2,c3⟩:=aN_ (h.below hB) hlt;have hd:Hid (l.drop k=p::l.drop (k+1)):=al_ hp;have hq:Hid (l[k]?=some p):=hp;have he:=hstr.at hp;clear hp;have hv:=hB.size
    cases hc:AO p.o
    ·go_wp2_with fail;refine (bp_ p.o _ he).mono ?_;rintro e w1 ⟨rfl,hb⟩;obtain⟨x0,x1,x2,x3,ha,hf⟩:=Mt hb;rw[hc];go_wp2;go_returns;go_light;refine⟨ac_ ?_,Aa hB ha⟩;rw[hI.out,hd.out];cases aheadC l k<;>simp[rgo,EY,hc]
    ·by_cases hok:1<=p.n∧p.n<=1000
     ·obtain⟨hl,hm⟩:=hok;have jz:Hid (EY p=true):=by show _=_;simp[EY,hc,hl,hm]
      rcases k with _ | j
      ·simp only[Nat.zero_mul,Nat.add_zero] at c0 c1 c2 c3;go_wp2_with fail;refine (bp_ p.o _ he).mono ?_;rintro e w1 ⟨rfl,hb⟩;obtain⟨x0,x1,x2,x3,ha,hf⟩:=Mt hb;rw[hc];go_wp2_with fail;go_quiet (fail);go_wp2;go_roundw
       case rel=>exact⟨1,sH,sQ,dw,Aa hB (Aa ha (Bj _ _))⟩
       case measure=>simp[intOf];omega
      ·obtain⟨b',o',q,qW,hh,d0,d1,d2,d3⟩:=aN_ (h.below hB) (k:=j) sH;obtain⟨rfl,rfl⟩:b=b'∧o=o':=rE;have jp:Hid (aheadC l (j+1)=some q):=by show _=_;rw[bU_];exact hh
       clear hh qW
       cases qY:Bl q.o p.o;all_goals
        go_wp2_with fail;refine (bp_ p.o _ he).mono ?_;rintro e w1 ⟨rfl,hb⟩;obtain⟨x0,x1,x2,x3,ha,hf⟩:=Mt hb;rw[hc];replace d0:=Ab ha d0;replace d1:=Ab ha d1;replace d2:=Ab ha d2;have hj:(0:Int)<(j:Int)+1:=sH;have ho:(j:Int)<n:=sH;have hr:(0:Int)<=j:=sH;have ht:IntKind.i64.wrap ((j:Int)+1-1)=(j:Int):=rj;have hu:IntKind.i64.wrap (j:Int)=(j:Int):=rj;clear c0 c1 c2 c3;go_wp2_with fail;have g0:=Ad x0;have g1:=Ad x1;have g2:=Ad x2;have g3:=Ad d0;have g4:=Ad d1;have g5:=Ad d2;have hs:=aA_ w1;refine ab_ sI sI ?_;repeat (go_big_quiet_step (first | (go_at_call 116;have qq:=gU_ q.o p.o;rw[qY] at qq;exact an_ (qq _))))
        refine wpQuiet_nil ?_;intro w2 hx;have hg:=ah_ hx;clear hx;go_wp2
       ·go_returns;go_light;refine⟨ac_ ?_,Aa hB (Aa ha hg)⟩;rw[hI.out,hd.out,jp.out];simp[rgo,qY]
       ·go_roundw
        case rel=>exact⟨j+2,sH,sQ,oX,Aa hB (Aa ha hg)⟩
        case measure=>simp[intOf];omega
     ·have hz:Hid (EY p=false):=by show _=_;simp[EY];omega
      go_wp2_with fail;refine (bp_ p.o _ he).mono ?_;rintro e w1 ⟨rfl,hb⟩;obtain⟨x0,x1,x2,x3,ha,hf⟩:=Mt hb;rw[hc];go_wp2;(all_goals go_returns);(all_goals go_light);(all_goals refine⟨ac_ ?_,Aa hB ha⟩);all_goals (rw[hI.out,hd.out];cases aheadC l k<;>simp[rgo,hz.out])
   ·exact pu
 ·have qd:Hid (AB l=false):=by show _=_;have:=qg.out;simp[AB];omega
  go_enter func60,ntmps60;exact mL
def Kd (n:Nat)(l:List Ct):Prop:=n<=1048576∧∀ e∈l,e.o.f.size<=1048576
theorem Kd.strs {n:Nat}(h:Kd n l):Cx l:=fun e he=>by have:=h.2 e he;omega
end
section
open Go Go.RowKit Go.BigFrame Tryz
variable{l:List It}
def TY (n:Nat)(l:List It):Prop:=n<=1048576∧∀ x∈l,x.nm.size<=1048576∧x.ps.length<=1048576
def TZ (n:Nat)(l:List Vo):Prop:=n<=1048576∧∀ v∈l,v.nm.size<=1048576∧TY v.its.length v.its
end
section
open Go.RowKit Go.Shelf Tryz
attribute [local go_sem] YJ
def ggo (size:Int):Int->List Ex->List (Int×Int)
 |next,[]=>if next<=size then [(next,size+1-next)] else []
 |next,e::r=>(if next<e.a then [(next,e.a-next)] else [])++ggo size (e.a+e.d.size) r
end
section
open Go.RowKit Go.Shelf Tryz
attribute [local go_sem] YJ
attribute [local go_sem] YJ
def KN:List Ex->Int
 |[]=>0
 |e::r=>e.d.size+KN r
end
section
open Go.RowKit Go.Shelf Tryz
attribute [local go_sem] YJ
attribute [local go_sem] YJ
attribute [local go_sem] YJ
theorem UQ:(prog.info? 2).map (fun i=>(i.zero,i.size,i.bytes))=some (some (.int .i64 0),1,8):=by kernel_rfl
end
section
open Go Go.RowKit Go.BigFrame Tryz
variable{fr st to x y:Int}{l r:List Pt}{b:Nat}{p:Pt}{w:World}
theorem aZ_ (a:Option Addr)(n cap:Nat)(l:List Pt)(w:World)(h:BH w a n l)(hn:n<=4194304)(hs:∀ k,0<=Ar (l.take k)∧Ar (l.take k)<=100):
  Calls prog 211 #[.slice a n cap] w fun e w'=>e=.returned (.int .i64 (Ar l))∧w'=w:=by
 have ha:Hid (l.length=n):=h.len;go_enter func211,ntmps211;go_wp2_with fail;go_loop [3,4] (fun s ix=>∃ (k:Nat),k<=n∧ix=.int .i64 k∧s=.int .i64 (Ar (l.take k))) (fun _ ix=>n-(intOf ix).toNat)
 case atStart=>exact⟨0,Zg _,rfl,rfl⟩
 case round=>
  obtain⟨k,hk,rfl,rfl⟩:=hrel;have he:=hs k;have hb:=hs (k+1);by_cases hlt:k<n
  ·obtain⟨b,o,p,rfl,hp,c0,c1,c2⟩:=bi_ h hlt;have hc:Hid (Ar (l.take (k+1))=Ar (l.take k)+p.n):=gc_ hp;have hf:0<=Ar (l.take k)+p.n∧Ar (l.take k)+p.n<=100:=by rw[<-hc.out];exact hb
   clear hp hb;generalize Ar (l.take k)=s at *;go_wp2;go_round
   case rel=>exact⟨k+1,sH,sQ,by rw[hc.out]⟩
   case measure=>simp[intOf];omega
  ·obtain rfl:k=n:=sH;go_wp2;go_returns;go_light;refine⟨a4_ ?_,rfl⟩;rw[Zk (Zm ha.out)]
theorem i8_ (h:Ae l=true):∀ k,0<=Ar (l.take k)∧Ar (l.take k)<=100:=by
 intro k;obtain⟨_,h1,h2⟩:=ae_ h;have:=a6_ h1 k;omega
structure RSt where
 L:List Pt
 s:Int
 ov:Bool
def Fk (p:Pt)(x y:Int):Pt:=if p.a==0 then ⟨0,0,y-x⟩ else ⟨p.a,p.f+x,y-x⟩
def slp (fr to:Int):Int->List Pt->List Pt
 |_,[]=>[]
 |st,p::r=>if max (fr-st) 0<min (to-st) p.n then Fk p (max (fr-st) 0) (min (to-st) p.n)::slp fr to (st+p.n) r else slp fr to (st+p.n) r
theorem gf_ (p:Pt)(x y:Int):(Fk p x y).n=y-x:=by unfold Fk;split<;>rfl
theorem eN_ (hx:max (fr-st) 0=x)(hy:min (to-st) p.n=y)(h:x<y):slp fr to st (p::r)=Fk p x y::slp fr to (st+p.n) r:=by
 subst hx hy;simp only[slp,h,if_true]
theorem fo_ (h:¬ max (fr-st) 0<min (to-st) p.n):slp fr to st (p::r)=slp fr to (st+p.n) r:=by
 simp only[slp,h,if_false]
theorem ci_ (h:Ae l=true):∀ p∈l,1<=p.n∧p.n<=100∧0<=p.f∧p.f<=100:=by
 intro p hp;obtain⟨_,h1,h2⟩:=ae_ h;have hk:=h1 p hp;have ha:=av_ hk;have h3:p.n<=Ar l:=by
  obtain⟨i,hi⟩:=List.mem_iff_getElem?.1 hp;have e:=gc_ hi;have b1:=a6_ h1 i;have b2:=a6_ h1 (i+1);omega
 unfold Al at hk;split at hk<;>simp at hk<;>omega
end
section
open Go Go.RowKit Go.BigFrame Tryz
variable{c:Ct}{fr size st to x y z:Int}{l:List Ct}{lk r:List Pt}{B cap k n:Nat}{a:Option Addr}{p:Pt}{w:World}
def BG (l:List Pt)(p:Pt):List Pt:=
 match l.getLast? with
 |none=>[p]
 |some q=>if Bd q p then l.dropLast++[⟨q.a,q.f,wrap64 (q.n+p.n)⟩] else l++[p]
theorem rD{p:Prop}(h:p:=by simp[Value.ownBlock];omega):p:=h
theorem dE{p:Prop}(h:p:=by have:=qA.size;simp at this;first | omega | (simp;omega)):p:=h
theorem dO{p:Prop}(h:p:=by first | exact Aj _ x2 | exact Aj _ (Aj _ x2)):p:=h
theorem dP{p:Prop}(h:p:=by first | exact Aj _ x1 | exact Aj _ (Aj _ x1)):p:=h
theorem dQ{p:Prop}(h:p:=by first | exact Aj _ x0 | exact Aj _ (Aj _ x0)):p:=h
theorem fs{p:Prop}(h:p:=by first | exact zN | exact zN.alloc zN.size _):p:=h
theorem bg_ (a:Option Addr)(n cap:Nat)(l:List Pt)(p:Pt)(w:World)(h:BH w a n l)(hn:n<=4194304)(ha:Pc a cap):
  Calls prog 231 #[.slice a n cap,.agg #[.int .i64 p.a,.int .i64 p.f,.int .i64 p.n]] w fun e w'=>(∃ a' n' cap',e=.returned (.slice a' n' cap')∧Ac Pt.cs 3 156 w' w.heap.size a' n' cap' (BG l p))∧Below w.heap.size w w':=by
 have ht:=h.len;obtain⟨i0,hi,hk,hl,hm⟩:=info_parts Ql;have x0:(w.alloc (.cells #[.int .i64 p.a,.int .i64 p.f,.int .i64 p.n] 156)).cell? ⟨w.heap.size,0,none⟩=some (.int .i64 p.a):=sK;have x1:(w.alloc (.cells #[.int .i64 p.a,.int .i64 p.f,.int .i64 p.n] 156)).cell? ⟨w.heap.size,1,none⟩=some (.int .i64 p.f):=sK;have x2:(w.alloc (.cells #[.int .i64 p.a,.int .i64 p.f,.int .i64 p.n] 156)).cell? ⟨w.heap.size,2,none⟩=some (.int .i64 p.n):=sK;have hh:Below w.heap.size w (w.alloc (.cells #[.int .i64 p.a,.int .i64 p.f,.int .i64 p.n] 156)):=(Yg _ _).alloc (Zd _) _;rcases List.eq_nil_or_concat l with hL | ⟨L',q,hL⟩
 ·have hr:Hid (BG l p=[]++l++[p]):=by show _=_;rw[hL];rfl
  obtain rfl:n=0:=by rw[<-ht,hL];rfl
  go_enter func231,ntmps231;go_wp2_with fail;go_quiet (fail);replace x0:=Ab (Bj _ nq) x0;replace x1:=Ab (Bj _ nq) x1;replace x2:=Ab (Bj _ nq) x2;have hj:=Aa hh (Bj _ nq);clear hh;generalize (w.alloc (.cells #[.int .i64 p.a,.int .i64 p.f,.int .i64 p.n] 156)).drewN nq=W6 at *;have h6:=h.below hj;have hI:=hj.size;go_wp2_with fail;have hu:w.heap.size<W6.heap.size:=Yk W6 ⟨w.heap.size,0,none⟩ x0;go_region_held3 (fun u=>u.cell? ⟨w.heap.size,0,none⟩=some (.int .i64 p.a)∧u.cell? ⟨w.heap.size,1,none⟩=some (.int .i64 p.f)∧u.cell? ⟨w.heap.size,2,none⟩=some (.int .i64 p.n)) (go_keep) (first | (refine aJ_ rfl (ay_ _ _ 123 rfl (w.heap.size+1) 156 i0 (.agg #[.int .i64 0,.int .i64 0,.int .i64 0]) 24 underlying123 hi hk hl hm rfl sJ bF_ cI_ _ 0 0 [] rfl (aw_ (by first | exact (Blk.new' _ _ _ _ sK).drew | exact ((Blk.new' _ _ _ _ sK).alloc _).drew) rm) a 0 cap l rfl (h6.below sM) ha.spot ha.nil 0 (Zq _) sO sH rm ?_);intro a1 cap1 w1 hb qA;have z0:=qA.cell (a:=⟨w.heap.size,0,none⟩) dQ rD;have z1:=qA.cell (a:=⟨w.heap.size,1,none⟩) dP rD;have z2:=qA.cell (a:=⟨w.heap.size,2,none⟩) dO rD) | (refine aJ_ rfl (ay_ _ _ 123 rfl (w.heap.size+1) 156 i0 (.agg #[.int .i64 0,.int .i64 0,.int .i64 0]) 24 underlying123 hi hk hl hm rfl sJ bF_ cI_ a1 0 cap1 ([]++l) rfl (by first | exact hb | exact hb.alloc _) _ 1 1 [p] rfl (by first | exact ck_ _ p _ _ sK | (refine AH.grown (r:=W6.heap.size) (ck_ _ p _ _ sK).drew qA ?_;intro ad h;cases h;first | (simp;done) | (simp;omega) | omega) | (refine AH.grown (r:=W6.heap.size+1) ((ck_ _ p _ _ sK).alloc _).drew qA ?_;intro ad h;cases h;first | (simp;done) | (simp;omega) | omega)) (fun ad h=>sV) (fun h=>sY) (0+1) rfl sO sH dE ?_);intro a2 cap2 w2 hw hc;have y0:=hc.cell (a:=⟨w.heap.size,0,none⟩) (by first | exact z0 | exact Aj _ z0) (ej_ fun ad h=>(hb.block ad h).1);have y1:=hc.cell (a:=⟨w.heap.size,1,none⟩) (by first | exact z1 | exact Aj _ z1) (ej_ fun ad h=>(hb.block ad h).1);have y2:=hc.cell (a:=⟨w.heap.size,2,none⟩) (by first | exact z2 | exact Aj _ z2) (ej_ fun ad h=>(hb.block ad h).1)));all_goals
   have zN:Below w.heap.size w w1:=Yi sM qA rm (fun k e=>by simp[Value.ownBlock] at e;omega);have hp:Below w.heap.size w w2:=Yi fs hc (by have:=zN.size;first | omega | (simp;omega)) (aG_ fun ad h=>by have:=(hb.block ad h).1;omega);have hy:Ac Pt.cs 3 156 w2 w.heap.size a2 (0+1) cap2 (BG l p):=by rw[hr.out];exact hw.mono sH
   go_wp2;go_returns;exact⟨⟨a2,_,cap2,rfl,hy⟩,hp⟩
 ·-- there is a last part
  have hM:l.length=L'.length+1:=by rw[hL];simp
  have hq:l[L'.length]?=some q:=by rw[hL];simp
  have hf:l.getLast?=some q:=by rw[hL];simp
  have hB:l.dropLast=L':=by rw[hL];simp
  obtain⟨j,rfl⟩:∃ j,n=j+1:=⟨L'.length,sH⟩;have ho:L'.length=j:=sH;rw[ho] at hq;obtain⟨b,o,q',rfl,hg,d0,d1,d2⟩:=bi_ (h.below hh) (k:=j) sH;obtain rfl:q=q':=by rw[hq] at hg;exact Zi hg
  have hQ:wrap64 ((j:Int)+1-1)=(j:Int):=by unfold wrap64;omega
  have hO:(0:Int)<=(j:Int):=sH;have hP:(j:Int)<(j:Int)+1:=sH;have g0:=Ad d0;have g1:=Ad d1;have g2:=Ad d2;have g3:=Ad x0;have g4:=Ad x1;have g5:=Ad x2;have hH:=aA_ (w.alloc (.cells #[.int .i64 p.a,.int .i64 p.f,.int .i64 p.n] 156))
  cases hs:Bd q p;all_goals
   go_enter func231,ntmps231;go_wp2_with fail;refine ab_ sI sI ?_;repeat (go_big_quiet_step (first | (go_at_call 178;have qq:=gC_ q p;rw[hs] at qq;exact an_ (qq _))))
   refine wpQuiet_nil ?_;intro W6 hx;have he:=ah_ hx;clear hx g0 g1 g2 g3 g4 g5 hH;replace x0:=Ab he x0;replace x1:=Ab he x1;replace x2:=Ab he x2;replace d0:=Ab he d0;replace d1:=Ab he d1;replace d2:=Ab he d2;have hj:=Aa hh he;clear hh he;have h6:=h.below hj;have hI:=hj.size;have hu:w.heap.size<W6.heap.size:=Yk W6 ⟨w.heap.size,0,none⟩ x0
  ·have hr:Hid (BG l p=[]++l++[p]):=by show _=_;simp[BG,hf,hs]
   go_wp2_with fail;go_region_held3 (fun u=>u.cell? ⟨w.heap.size,0,none⟩=some (.int .i64 p.a)∧u.cell? ⟨w.heap.size,1,none⟩=some (.int .i64 p.f)∧u.cell? ⟨w.heap.size,2,none⟩=some (.int .i64 p.n)) (go_keep) (first | (refine aJ_ rfl (ay_ _ _ 123 rfl (w.heap.size+1) 156 i0 (.agg #[.int .i64 0,.int .i64 0,.int .i64 0]) 24 underlying123 hi hk hl hm rfl sJ bF_ cI_ _ 0 0 [] rfl (aw_ (by first | exact (Blk.new' _ _ _ _ sK).drew | exact ((Blk.new' _ _ _ _ sK).alloc _).drew) rm) (some ⟨b,o,none⟩) (j+1) cap l rfl (h6.below sM) ha.spot ha.nil (j+1) (Zq _) sO sH rm ?_);intro a1 cap1 w1 hb qA;have z0:=qA.cell (a:=⟨w.heap.size,0,none⟩) dQ rD;have z1:=qA.cell (a:=⟨w.heap.size,1,none⟩) dP rD;have z2:=qA.cell (a:=⟨w.heap.size,2,none⟩) dO rD) | (refine aJ_ rfl (ay_ _ _ 123 rfl (w.heap.size+1) 156 i0 (.agg #[.int .i64 0,.int .i64 0,.int .i64 0]) 24 underlying123 hi hk hl hm rfl sJ bF_ cI_ a1 (j+1) cap1 ([]++l) rfl (by first | exact hb | exact hb.alloc _) _ 1 1 [p] rfl (by first | exact ck_ _ p _ _ sK | (refine AH.grown (r:=W6.heap.size) (ck_ _ p _ _ sK).drew qA ?_;intro ad h;cases h;first | (simp;done) | (simp;omega) | omega) | (refine AH.grown (r:=W6.heap.size+1) ((ck_ _ p _ _ sK).alloc _).drew qA ?_;intro ad h;cases h;first | (simp;done) | (simp;omega) | omega)) (fun ad h=>sV) (fun h=>sY) (j+1+1) rfl sO sH dE ?_);intro a2 cap2 w2 hw hc;have y0:=hc.cell (a:=⟨w.heap.size,0,none⟩) (by first | exact z0 | exact Aj _ z0) (ej_ fun ad h=>(hb.block ad h).1);have y1:=hc.cell (a:=⟨w.heap.size,1,none⟩) (by first | exact z1 | exact Aj _ z1) (ej_ fun ad h=>(hb.block ad h).1);have y2:=hc.cell (a:=⟨w.heap.size,2,none⟩) (by first | exact z2 | exact Aj _ z2) (ej_ fun ad h=>(hb.block ad h).1)));all_goals
    have zN:Below w.heap.size w w1:=Yi sM qA rm (fun k e=>by simp[Value.ownBlock] at e;omega);have hp:Below w.heap.size w w2:=Yi fs hc (by have:=zN.size;first | omega | (simp;omega)) (aG_ fun ad h=>by have:=(hb.block ad h).1;omega);have hy:Ac Pt.cs 3 156 w2 w.heap.size a2 (j+1+1) cap2 (BG l p):=by rw[hr.out];exact hw.mono sH
    go_wp2;go_returns;exact⟨⟨a2,_,cap2,rfl,hy⟩,hp⟩
  ·have hr:Hid (BG l p=l.dropLast++[⟨q.a,q.f,wrap64 (q.n+p.n)⟩]):=by show _=_;simp[BG,hf,hs]
   go_wp2_with (at_builtin;refine ag_ rfl (fun K hK=>ay_ _ _ 123 rfl (w.heap.size+1) 156 i0 (.agg #[.int .i64 0,.int .i64 0,.int .i64 0]) 24 underlying123 hi hk hl hm rfl sJ bF_ cI_ _ 0 0 [] rfl (aw_ (Blk.new' _ _ _ _ sK) sH) (some ⟨b,o,none⟩) (j+1) cap l rfl (h6.below sM) ha.spot ha.nil (j+1) (Zq _) sO sH sN (fun a1 cap1 w1 hb qA=>hK _ _ ?_)));have zN:Below w.heap.size w w1:=Yi sM qA sN (fun k e=>by simp[Value.ownBlock] at e;omega);rcases hb.own with⟨_,h0,_⟩ | ⟨g,rfl,hN,hD,hE,c,hA,hF,hG⟩
   ·exact absurd h0 sH
   have z2:=qA.cell (a:=⟨w.heap.size,2,none⟩) (Aj _ x2) rD;obtain⟨b',o',q',qW,hg,e0,e1,e2⟩:=bi_ hb.sl (k:=j) sH;obtain⟨rfl,rfl⟩:g=b'∧0=o':=rE;obtain rfl:q=q':=by simp only[ZM] at hg;rw[hq] at hg;exact Zi hg
   simp only[Zq] at e0 e1 e2;have f2:=hA.frozen (j*3+2);clear qW;refine aE_ 12 sI sI ?_;simp only[ZP,Yx,ZR,YC];(repeat still_step);refine wpStill_nil ?_;go_wp2;go_returns;go_light;refine⟨⟨some ⟨g,0,none⟩,j+1,cap1,rfl,?_⟩,((zN.setCell (by show w.heap.size<=g;omega) _).drew)⟩;rw[hr.out,hB];have hC:(L'.flatMap Pt.cs).length=j*3:=by rw[aY_ bF_,ho]
   have hJ:(c.setIfInBounds (j*3+2) (.int .i64 (wrap64 (q.n+p.n)))).toList.take ((j+1)*3)=(L'++[(⟨q.a,q.f,wrap64 (q.n+p.n)⟩:Pt)]).flatMap Pt.cs:=by
    rw[Array.toList_setIfInBounds,List.take_set,hG,hL,ZM,List.concat_eq_append,ZQ,ZQ,List.set_append_right _ _ sH,hC];simp[Pt.cs]
   obtain⟨a2,cap2,hv,hz⟩:=bz_ (w:=(w1.setCell ⟨g,j*3+2,none⟩ (.int .i64 (wrap64 (q.n+p.n)))).drew) (B:=w.heap.size) (t:=156) (n:=j+1) (v:=.slice (some ⟨g,0,none⟩) (j+1) cap1) (l:=L'++[(⟨q.a,q.f,wrap64 (q.n+p.n)⟩:Pt)]) bF_ (by simp[ho])
    ⟨by rw[aY_ bF_];simp[ho],.inr ⟨g,cap1,_,rfl,sH,(hA.set _ _).drew,hD,hE,by simp[hF],hJ⟩⟩
   cases hv;exact hz
def Aw (l m:List Pt):List Pt:=m.foldl BG l
theorem fL_ (l:List Pt)(p:Pt):(BG l p).length<=l.length+1:=by
 unfold BG;split
 ·simp
 ·split
  ·simp only[ZE,List.length_dropLast,Zw,YK];omega
  ·simp
theorem n1_ {l m:List Pt}(h:m[k]?=some p):Aw l (m.take (k+1))=BG (Aw l (m.take k)) p:=by
 unfold Aw;rw[bx_ h,List.foldl_append];rfl
theorem bS_ (a:Option Addr)(n cap:Nat)(l:List Pt)(a':Option Addr)(n' cap':Nat)(m:List Pt)(w:World)(h:BH w a n l)(hn:n<=1100000)(ha:Pc a cap)(h':BH w a' n' m)(hn':n'<=1100000):
  Calls prog 232 #[.slice a n cap,.slice a' n' cap'] w fun e w'=>(∃ a1 n1 cap1,e=.returned (.slice a1 n1 cap1)∧n1<=n+n'∧Ac Pt.cs 3 156 w' w.heap.size a1 n1 cap1 (Aw l m))∧Below w.heap.size w w':=by
 have hb:Hid (m.length=n'):=h'.len;obtain⟨i0,hi,hh,hj,hl⟩:=info_parts Ql;go_enter func232,ntmps232;go_wp2_with (at_builtin;refine ag_ rfl (fun K hK=>ay_ _ _ 123 rfl w.heap.size 156 i0 (.agg #[.int .i64 0,.int .i64 0,.int .i64 0]) 24 underlying123 hi hh hj hl rfl sJ bF_ cI_ _ 0 0 [] rfl (aw_ (Blk.new' _ _ _ _ sK) sH) a n cap l rfl (h.below sM) ha.spot ha.nil n (Zq _) sO sH sK (fun a1 cap1 w1 hf he=>hK _ _ ?_)));have hq:Below w.heap.size w w1:=Yi sM he sK (fun k e=>by simp[Value.ownBlock] at e;omega);simp only[ZM] at hf;clear he hi hh hj hl;go_loopw [5,6] (fun out ix wr=>∃ (k:Nat) (a2:Option Addr) (n2 cap2:Nat),k<=n'∧ix=.int .i64 k∧out=.slice a2 n2 cap2∧n2<=n+k∧Ac Pt.cs 3 156 wr w.heap.size a2 n2 cap2 (Aw l (m.take k))∧Below w.heap.size w wr) (fun _ ix _=>n'-(intOf ix).toNat)
 case atStart=>exact⟨0,a1,n,cap1,Zg _,rfl,rfl,sH,hf,hq⟩
 case round=>
  obtain⟨k,a2,n2,cap2,hk,rfl,rfl,hr,hc,hB⟩:=hrel;by_cases hlt:k<n'
  ·obtain⟨b,o,p,rfl,hp,c0,c1,c2⟩:=bi_ (h'.below hB) hlt;have hs:Hid (Aw l (m.take (k+1))=BG (Aw l (m.take k)) p):=n1_ hp;clear hp;generalize Aw l (m.take k)=lk at *;have ho:=fL_ lk p;rw[hc.sl.len] at ho;go_wp2_with fail;refine (bg_ a2 n2 cap2 lk p _ hc.sl sH hc.arg).mono ?_;rintro e w3 ⟨⟨a3,n3,cap3,rfl,hg⟩,hm⟩;have ht:=hg.sl.len;go_wp2;go_roundw
   case rel=>exact⟨k+1,a3,n3,cap3,sH,sQ,rfl,sH,by rw[hs.out];exact hg.mono hB.size,Aa hB hm⟩
   case measure=>simp[intOf];omega
  ·obtain rfl:k=n':=sH;go_wp2;go_returns;go_light;rw[Zk (Zm hb.out)] at hc;exact⟨⟨a2,n2,cap2,rfl,hr,hc⟩,hB⟩
def Tz (l:List Pt):Prop:=∀ p∈l,(1<=p.n∧p.n<=100∧0<=p.f∧p.f<=100)∧((p.a=0∧p.f=0)∨0<p.a)
theorem n2_ (h:p.a=0)(hf:p.f=0):Fk p x y=⟨p.a,p.f,y-x⟩:=by simp[Fk,h,hf]
theorem pk_ (h:0<p.a):Fk p x y=⟨p.a,p.f+x,y-x⟩:=by
 have:(p.a==0)=false:=ZV.2 sH;simp[Fk,this]
theorem j2_ (hx:max (fr-st) 0=x)(hy:min (to-st) p.n=y)(h:x<y):Aw lk (slp fr to st (p::r))=Aw (BG lk (Fk p x y)) (slp fr to (st+p.n) r):=by
 rw[eN_ hx hy h];rfl
theorem fM_ (h:max (fr-st) 0<min (to-st) p.n)(ha:p.a=0∧p.f=0)(hz:min (to-st) p.n-max (fr-st) 0=z):Aw lk (slp fr to st (p::r))=Aw (BG lk ⟨p.a,p.f,z⟩) (slp fr to (st+p.n) r):=by
 rw[j2_ rfl rfl h,n2_ ha.1 ha.2,hz]
theorem g0_ {f:Int}(h:max (fr-st) 0<min (to-st) p.n)(ha:0<p.a)(hf:p.f+max (fr-st) 0=f)(hz:min (to-st) p.n-max (fr-st) 0=z):Aw lk (slp fr to st (p::r))=Aw (BG lk ⟨p.a,f,z⟩) (slp fr to (st+p.n) r):=by
 rw[j2_ rfl rfl h,pk_ ha,hz,hf]
theorem bZ_ {l:List Pt}{m:Nat}(h1:(BG l p).length=n)(h2:l.length=m):n<=m+1:=by
 have:=fL_ l p;omega
theorem lu{p:Prop}(h:p:=by
 clear hxy;go_wp2;go_roundw
 case rel=>exact⟨k+1,st+p.n,a3,n3,cap3,_,sH,sQ,sQ,sH,sH,rfl,sH,zk.mono sN,by show _=_;rw[hI.out,hd.out];exact qd.out,Aa hB qK⟩
 case measure=>simp[intOf];omega):p:=h
theorem ba_ (a:Option Addr)(n cap:Nat)(l:List Pt)(fr to:Int)(w:World)(h:BH w a n l)(hn:n<=16)(hl:Tz l)(hf0:0<=fr)(hf1:fr<=10000)(ht0:0<=to)(ht1:to<=10000):
  Calls prog 212 #[.slice a n cap,.int .i64 fr,.int .i64 to] w fun e w'=>(∃ a1 n1 cap1,e=.returned (.slice a1 n1 cap1)∧n1<=n∧Ac Pt.cs 3 156 w' w.heap.size a1 n1 cap1 (Aw [] (slp fr to 0 l)))∧Below w.heap.size w w':=by
 have hg:Hid (l.length=n):=h.len;go_enter func212,ntmps212;go_wp2_with fail;go_loopw [7,8,9] (fun out s ix wr=>∃ (k:Nat) (st:Int) (a2:Option Addr) (n2 cap2:Nat) (lk:List Pt),k<=n∧ix=.int .i64 k∧s=.int .i64 st∧0<=st∧st<=100*k∧out=.slice a2 n2 cap2∧n2<=k∧Ac Pt.cs 3 156 wr w.heap.size a2 n2 cap2 lk∧Hid (Aw [] (slp fr to 0 l)=Aw lk (slp fr to st (l.drop k)))∧Below w.heap.size w wr) (fun _ _ ix _=>n-(intOf ix).toNat)
 case atStart=>exact⟨0,0,_,0,0,[],Zg _,rfl,rfl,sH,sH,rfl,sH,aw_ (Blk.new _ _ _) (Zd _),rfl,(Yg _ _).alloc (Zd _) _⟩
 case round=>
  obtain⟨k,st,a2,n2,cap2,lk,hk,rfl,rfl,ht,hu,rfl,hj,ha,hI,hB⟩:=hrel;by_cases hlt:k<n
  ·obtain⟨b,o,p,rfl,hp,c0,c1,c2⟩:=bi_ (h.below hB) hlt;have hd:Hid (l.drop k=p::l.drop (k+1)):=al_ hp;obtain⟨⟨ho,hq,hr,hs⟩,hc⟩:=hl p (Zc hp);clear hp;have hv:=hB.size;by_cases hxy:max (fr-st) 0<min (to-st) p.n
   ·rcases hc with⟨hc,hh⟩ | hc
    ·have hm:¬ 0<p.a:=sH;have hf:Hid (p.a=0∧p.f=0):=⟨hc,hh⟩;clear hc hh;by_cases hx:fr<st
     ·by_cases hy:st+p.n<to
      ·go_wp2_with fail;refine (bg_ a2 n2 cap2 lk ⟨p.a,p.f,(st+p.n)-st⟩ _ (ha.sl.alloc _) sH ha.arg).mono ?_;rintro e w3 ⟨⟨a3,n3,cap3,rfl,zk⟩,hb⟩;have he:=bZ_ zk.sl.len ha.sl.len;obtain⟨_,_,_,qK,_⟩:=Hk hb;have y2:=Ab qK c2;have qd:Hid (Aw lk (slp fr to st (p::l.drop (k+1)))=Aw (BG lk ⟨p.a,p.f,(st+p.n)-st⟩) (slp fr to (st+p.n) (l.drop (k+1)))):=fM_ hxy hf.out sH;exact lu
      ·go_wp2_with fail;refine (bg_ a2 n2 cap2 lk ⟨p.a,p.f,to-st⟩ _ (ha.sl.alloc _) sH ha.arg).mono ?_;rintro e w3 ⟨⟨a3,n3,cap3,rfl,zk⟩,hb⟩;have he:=bZ_ zk.sl.len ha.sl.len;obtain⟨_,_,_,qK,_⟩:=Hk hb;have y2:=Ab qK c2;have qd:Hid (Aw lk (slp fr to st (p::l.drop (k+1)))=Aw (BG lk ⟨p.a,p.f,to-st⟩) (slp fr to (st+p.n) (l.drop (k+1)))):=fM_ hxy hf.out sH;exact lu
     ·by_cases hy:st+p.n<to
      ·go_wp2_with fail;refine (bg_ a2 n2 cap2 lk ⟨p.a,p.f,(st+p.n)-fr⟩ _ (ha.sl.alloc _) sH ha.arg).mono ?_;rintro e w3 ⟨⟨a3,n3,cap3,rfl,zk⟩,hb⟩;have he:=bZ_ zk.sl.len ha.sl.len;obtain⟨_,_,_,qK,_⟩:=Hk hb;have y2:=Ab qK c2;have qd:Hid (Aw lk (slp fr to st (p::l.drop (k+1)))=Aw (BG lk ⟨p.a,p.f,(st+p.n)-fr⟩) (slp fr to (st+p.n) (l.drop (k+1)))):=fM_ hxy hf.out sH;exact lu
      ·go_wp2_with fail;refine (bg_ a2 n2 cap2 lk ⟨p.a,p.f,to-fr⟩ _ (ha.sl.alloc _) sH ha.arg).mono ?_;rintro e w3 ⟨⟨a3,n3,cap3,rfl,zk⟩,hb⟩;have he:=bZ_ zk.sl.len ha.sl.len;obtain⟨_,_,_,qK,_⟩:=Hk hb;have y2:=Ab qK c2;have qd:Hid (Aw lk (slp fr to st (p::l.drop (k+1)))=Aw (BG lk ⟨p.a,p.f,to-fr⟩) (slp fr to (st+p.n) (l.drop (k+1)))):=fM_ hxy hf.out sH;exact lu
    ·by_cases hx:fr<st
     ·by_cases hy:st+p.n<to
      ·go_wp2_with fail;refine (bg_ a2 n2 cap2 lk ⟨p.a,p.f,(st+p.n)-st⟩ _ (ha.sl.alloc _) sH ha.arg).mono ?_;rintro e w3 ⟨⟨a3,n3,cap3,rfl,zk⟩,hb⟩;have he:=bZ_ zk.sl.len ha.sl.len;obtain⟨_,_,_,qK,_⟩:=Hk hb;have y2:=Ab qK c2;have qd:Hid (Aw lk (slp fr to st (p::l.drop (k+1)))=Aw (BG lk ⟨p.a,p.f,(st+p.n)-st⟩) (slp fr to (st+p.n) (l.drop (k+1)))):=g0_ hxy hc sH sH;exact lu
      ·go_wp2_with fail;refine (bg_ a2 n2 cap2 lk ⟨p.a,p.f,to-st⟩ _ (ha.sl.alloc _) sH ha.arg).mono ?_;rintro e w3 ⟨⟨a3,n3,cap3,rfl,zk⟩,hb⟩;have he:=bZ_ zk.sl.len ha.sl.len;obtain⟨_,_,_,qK,_⟩:=Hk hb;have y2:=Ab qK c2;have qd:Hid (Aw lk (slp fr to st (p::l.drop (k+1)))=Aw (BG lk ⟨p.a,p.f,to-st⟩) (slp fr to (st+p.n) (l.drop (k+1)))):=g0_ hxy hc sH sH;exact lu
     ·by_cases hy:st+p.n<to
      ·go_wp2_with fail;refine (bg_ a2 n2 cap2 lk ⟨p.a,p.f+fr-st,(st+p.n)-fr⟩ _ (ha.sl.alloc _) sH ha.arg).mono ?_;rintro e w3 ⟨⟨a3,n3,cap3,rfl,zk⟩,hb⟩;have he:=bZ_ zk.sl.len ha.sl.len;obtain⟨_,_,_,qK,_⟩:=Hk hb;have y2:=Ab qK c2;have qd:Hid (Aw lk (slp fr to st (p::l.drop (k+1)))=Aw (BG lk ⟨p.a,p.f+fr-st,(st+p.n)-fr⟩) (slp fr to (st+p.n) (l.drop (k+1)))):=g0_ hxy hc sH sH;exact lu
      ·go_wp2_with fail;refine (bg_ a2 n2 cap2 lk ⟨p.a,p.f+fr-st,to-fr⟩ _ (ha.sl.alloc _) sH ha.arg).mono ?_;rintro e w3 ⟨⟨a3,n3,cap3,rfl,zk⟩,hb⟩;have he:=bZ_ zk.sl.len ha.sl.len;obtain⟨_,_,_,qK,_⟩:=Hk hb;have y2:=Ab qK c2;have qd:Hid (Aw lk (slp fr to st (p::l.drop (k+1)))=Aw (BG lk ⟨p.a,p.f+fr-st,to-fr⟩) (slp fr to (st+p.n) (l.drop (k+1)))):=g0_ hxy hc sH sH;exact lu
   ·by_cases hx:fr<st;(all_goals by_cases hy:st+p.n<to);(all_goals try (exfalso;omega));all_goals
     go_wp2;go_roundw
     case rel=>exact⟨k+1,st+p.n,a2,n2,cap2,lk,sH,sQ,sQ,sH,sH,rfl,sH,ha,by show _=_;rw[hI.out,hd.out,fo_ hxy],hB⟩
     case measure=>simp[intOf];omega
  ·obtain rfl:k=n:=sH;go_wp2;go_returns;go_light;rw[Ze (Zm hg.out)] at hI;rw[hI.out];exact⟨⟨a2,n2,cap2,rfl,hj,ha⟩,hB⟩
theorem hq_ {l:List Pt}(h:Ae l=true):Tz l:=by
 intro p hp;refine⟨ci_ h p hp,?_⟩;have hk:=(ae_ h).2.1 p hp;unfold Al at hk;split at hk
 ·rename_i ha;simp at ha hk;exact .inl ⟨ha,hk.1⟩
 ·simp at hk;exact .inr sH
theorem my_:∀ (l:List Int),∀ u∈l.flatMap ics,u.oneCell'=true:=by
 intro l u hu;obtain⟨x,_,hx⟩:=ZL.1 hu;simp at hx;subst hx;rfl
theorem j3_ (w:World)(x:Int)(t:TypeId)(b:Nat)(hb:b=w.heap.size):AH ics 1 (w.alloc (.cells #[.int .i64 x] t)) (some ⟨b,0,none⟩) 1 [x]:=by
 subst hb;refine⟨rfl,fun i y hy=>⟨w.heap.size,0,rfl,fun j v hv=>?_⟩⟩;have hi:i=0:=rl;subst hi;simp at hy;subst hy
 match j,hv with
 |0,hv=>obtain rfl:=Zi hv;simp
 |j+1,hv=>simp at hv
def glA (size:Int)(l:List Ex):Nat->List Int×Int
 |0=>([],1)
 |k+1=>match l[k]? with
  |none=>glA size l k
  |some e=>((glA size l k).1++[e.a-(glA size l k).2],e.a+e.d.size)
theorem da_ {l:List Ex}{p:Ex}(h:l[k]?=some p):glA size l (k+1)=((glA size l k).1++[p.a-(glA size l k).2],p.a+p.d.size):=by simp[glA,h]
theorem dk{p:Prop}(h:p:=by simp[show k<l.length by omega]):p:=h
theorem lB_ {l:List Ex}:∀ k,k<=l.length->gl size 1 l=(glA size l k).1++gl size (glA size l k).2 (l.drop k)
 |0,_=>by simp[glA]
 |k+1,h=>by
  have hk:l[k]?=some l[k]:=dk
  rw[lB_ k sH,al_ hk,da_ hk];simp[gl]
theorem jd_ {l:List Ex}:∀ k,k<=l.length->(glA size l k).1.length=k
 |0,_=>rfl
 |k+1,h=>by
  have hk:l[k]?=some l[k]:=dk
  rw[da_ hk];simp[jd_ (l:=l) k sH]
theorem lC_ {l:List Ex}(hs:size<=400):∀ k,k<=l.length->xgo size 1 l=true->1<=(glA size l k).2∧(glA size l k).2<=421∧xgo size (glA size l k).2 (l.drop k)=true
 |0,_,h=>⟨by simp[glA],by simp[glA],by simpa[glA] using h⟩
 |k+1,hk',h=>by
  have hk:l[k]?=some l[k]:=dk
  obtain⟨q1,q2,q3⟩:=lC_ hs k sH h;rw[al_ hk] at q3;simp only[xgo,Zf,ZU] at q3;obtain⟨⟨⟨h1,h2⟩,h3⟩,h4⟩:=q3;have ha:l[k].d.size<=20:=by simp[At] at h1;omega
  rw[da_ hk];exact⟨sN,sN,h4⟩
theorem j4_ (size:Int)(a:Option Addr)(n cap:Nat)(l:List Ex)(w:World)(h:Cg w a n l)(hn:n<=60)(hs1:1<=size)(hs2:size<=400)(hx:xgo size 1 l=true):
  Calls prog 230 #[.int .i64 size,.slice a n cap] w fun e w'=>(∃ a' n' cap',e=.returned (.slice a' n' cap')∧Ac ics 1 2 w' w.heap.size a' n' cap' (gl size 1 l))∧Below w.heap.size w w':=by
 have qg:Hid (l.length=n):=h.len;obtain⟨i0,hi,hh,hj,hl⟩:=info_parts UQ;go_enter func230,ntmps230;go_wp2_with fail;go_loopw [5,6,7] (fun out nx ix wr=>∃ (k:Nat) (a2:Option Addr) (n2 cap2:Nat),k<=n∧ix=.int .i64 k∧nx=.int .i64 (glA size l k).2∧out=.slice a2 n2 cap2∧n2=k∧Ac ics 1 2 wr w.heap.size a2 n2 cap2 (glA size l k).1∧Below w.heap.size w wr) (fun _ _ ix _=>n-(intOf ix).toNat)
 case atStart=>exact⟨0,_,0,0,Zg _,rfl,rfl,rfl,rfl,aw_ (Blk.new _ _ _) (Zd _),sM⟩
 case round=>
  obtain⟨k,a2,n2,cap2,hk,rfl,rfl,rfl,rfl,R2,hB⟩:=hrel;have hg:=hB.size;obtain⟨q1,q2,q3⟩:=lC_ (k:=n2) hs2 (by rw[qg.out];exact hk) hx;by_cases hlt:n2<n
  ·obtain⟨b,o,p,rfl,hp,c0,c1⟩:=be_ (h.below hB) hlt;have hc:Hid (glA size l (n2+1)=((glA size l n2).1++[p.a-(glA size l n2).2],p.a+p.d.size)):=da_ hp;rw[al_ hp] at q3;simp only[xgo,Zf,ZU] at q3;obtain⟨⟨⟨h1,h2⟩,h3⟩,_⟩:=q3;have ho:p.d.size<=20:=by simp[At] at h1;omega
   have hs:b<wr.heap.size:=Yk wr _ c0;have hf:b<w.heap.size:=by
    obtain⟨b',o',p',qW,_,d0,_⟩:=be_ h hlt;exact sE
   clear hp h1;generalize glA size l n2=G at *;obtain⟨gk,nk⟩:=G;simp only at *;have hq:(n2:Int)<n:=sH;have hr:(0:Int)<=n2:=sH;go_wp2_with (at_builtin;refine ag_ rfl (fun K hK=>ay_ _ _ 81 rfl w.heap.size 2 i0 (.int .i64 0) 8 underlying81 hi hh hj hl rfl sJ mw_ my_ a2 n2 cap2 gk rfl (R2.alloc _) _ 1 1 [p.a-nk] rfl (j3_ _ _ _ _ sK) (fun ad h=>sV) (fun h=>sY) (n2+1) rfl sO sH sN (fun a3 cap3 w3 R3 hb=>hK _ _ ?_)));have he:Below w.heap.size w w3:=Yi (hB.alloc hg _) hb sN (aG_ fun ad ha=>(R2.block ad ha).1);have d0:=hb.cell (Aj (.cells #[.int .i64 (p.a-nk)] 2) c0) (at_ (fun ad ha=>(R2.block ad ha).1) hf);have d1:=hb.cell (Aj (.cells #[.int .i64 (p.a-nk)] 2) c1) (at_ (fun ad ha=>(R2.block ad ha).1) hf);clear c0 c1 hK;go_wp2_with fail;go_quiet (fail);have R4:=R3.below (Bj w3 nq);have hm:=Aa he (Bj w3 nq);go_wp2;go_roundw
   case rel=>exact⟨n2+1,a3,n2+1,cap3,sH,sQ,by rw[hc.out],rfl,rfl,by rw[hc.out];exact R4,hm⟩
   case measure=>simp[intOf];omega
  ·obtain rfl:n2=n:=sH;have hc:Hid (gl size 1 l=(glA size l n2).1++[size+1-(glA size l n2).2]):=by
    show _=_;rw[lB_ n2 ox,Ze (Zm qg.out),gl]
   clear q3;generalize glA size l n2=G at *;obtain⟨gk,nk⟩:=G;simp only at *;go_wp2_with (at_builtin;refine ag_ rfl (fun K hK=>ay_ _ _ 81 rfl w.heap.size 2 i0 (.int .i64 0) 8 underlying81 hi hh hj hl rfl sJ mw_ my_ a2 n2 cap2 gk rfl (R2.alloc _) _ 1 1 [size+1-nk] rfl (j3_ _ _ _ _ sK) (fun ad h=>sV) (fun h=>sY) (n2+1) rfl sO sH sN (fun a3 cap3 w3 R3 hb=>hK _ _ ?_)));have he:Below w.heap.size w w3:=Yi (hB.alloc hg _) hb sN (aG_ fun ad ha=>(R2.block ad ha).1);go_returns;exact⟨⟨a3,n2+1,cap3,rfl,by rw[hc.out];exact R3⟩,he⟩
theorem n3_:∀ {L:List Ex} {next:Int},(gl size next L).length=L.length+1
 |[],_=>rfl
 |e::r,next=>by simp[gl,n3_ (L:=r)]
theorem ri{p:Prop}(h:p:=by first | exact jG _ p _ _ (by simp) | (refine jy.grown (r:=W6.heap.size) (jG _ p _ _ (by simp)).drew qA ?_;intro ad h;cases h;first | (simp;done) | (simp;omega) | omega) | (refine jy.grown (r:=W6.heap.size+1) ((jG _ p _ _ (by simp)).alloc _).drew qA ?_;intro ad h;cases h;first | (simp;done) | (simp;omega) | omega)):p:=h
theorem ot{p:Prop}(h:p:=by first | exact (Blk.new' _ _ _ _ (by simp)).drew | exact ((Blk.new' _ _ _ _ (by simp)).alloc _).drew):p:=h
end
end Go.Proofs.YteejlahappbalaaGreatDoor
