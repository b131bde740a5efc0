/- Counts added up: a list in order with no nought is told by its sums. -/
import Derived.Test.YtdmeabghpchckaaGreatDoorU01
import Derived.Test.YtdmeabghpchckaaGreatDoorU02
set_option maxHeartbeats 20000000
set_option maxRecDepth 100000
namespace Go.Proofs.YtdmeabghpchckaaGreatDoor
section
open Go Go.RowKit
variable{c:Ct}{a b:Ow}
theorem dA_ (h:Bc a b=true):Bx a b=false:=by
 cases e:Bx a b
 ·rfl
 ·rw[aM_.1 e,gD_] at h;cases h
theorem ge_ (h:Bx a b=false):Bx b a=false:=by
 cases e:Bx b a
 ·rfl
 ·rw[aM_.1 e,a3_] at h;cases h
theorem cc_ {o:Ow}:∀ {l:List Ct},(∀ c∈l,Bc o c.o=true)->tot o l=0
 |[],_=>rfl
 |c::r,h=>by
  have h1:=ge_ (dA_ (h c (by simp)));simp only[tot,h1,Zj,if_false];rw[cc_ (fun x hx=>h x (by simp[hx]))];rfl
theorem cS_:∀ {l m:List Ct},Br l->Br m->Bi l->Bi m->(∀ o,tot o l=tot o m)->l=m
 |[],[],_,_,_,_,_=>rfl
 |[],y::s,_,hm,_,zm,h=>by
  have:=h y.o
  have hs:=cc_ (Ye.1 hm).1;simp only[tot,a3_,if_true,hs] at this
  exact absurd (by omega) (zm y (by simp))
 |x::r,[],hl,_,zl,_,h=>by
  have:=h x.o
  have hr:=cc_ (Ye.1 hl).1;simp only[tot,a3_,if_true,hr] at this
  exact absurd (by omega) (zl x (by simp))
 |x::r,y::s,hl,hm,zl,zm,h=>by
  obtain⟨hf,hh⟩:=Ye.1 hl;obtain⟨hg,hj⟩:=Ye.1 hm;have hr:=cc_ hf;have hs:=cc_ hg
  cases hb:Bc x.o y.o
  ·cases he:Bc y.o x.o
   ·have e:x.o=y.o:=by
     cases e:Bx x.o y.o
     ·have:=ct_ hb (fun e'=>by rw[aM_.2 e'] at e;cases e)
      rw[he] at this;cases this
     ·exact aM_.1 e
    have h1:=h x.o;rw[<-e] at hs;simp only[tot,<-e,a3_,if_true,hr,hs] at h1;have exy:x=y:=by cases x;cases y;simp at e h1 ⊢;exact⟨e,h1⟩
    subst exy
    have:r=s:=cS_ hh hj (fun c hc=>zl c (by simp[hc])) (fun c hc=>zm c (by simp[hc])) (fun o=>by have:=h o;simp only[tot] at this;omega)
    rw[this]
   ·have h1:=h y.o;have hz:tot y.o r=0:=cc_ (fun c hc=>b7_ he (hf c hc));have ha:=ge_ (dA_ he);simp only[tot,a3_,if_true,hs,ha,Zj,if_false,hz] at h1
    exact absurd (by omega) (zm y (by simp))
  ·have h1:=h x.o;have hz:tot x.o s=0:=cc_ (fun c hc=>b7_ hb (hg c hc));have ha:=ge_ (dA_ hb);simp only[tot,a3_,if_true,hr,ha,Zj,if_false,hz] at h1
   exact absurd (by omega) (zl x (by simp))
end
section
open Go Go.RowKit Go.BigFrame Tryz
theorem fc_ (x:Int)(w:World):
  Calls prog 174 #[.int .i64 x] w fun e w'=>e=.returned (.bool false)∧w'=w:=by
 have hx:(x != x)=false:=by simp
 go_enter func174,ntmps174;go_wp2;go_returns;go_light;exact⟨by simp,rfl⟩
theorem fd_ (x:ByteArray)(w:World):
  Calls prog 175 #[.string x] w fun e w'=>e=.returned (.bool false)∧w'=w:=by
 go_enter func175,ntmps175;go_wp2;go_returns;go_light;exact⟨by simp,rfl⟩
theorem dZ_ (x y:Int)(w:World):
  Calls prog 148 #[.int .i64 x,.int .i64 y] w fun e w'=>e=.returned (.int .i64 (Ds x y))∧w'=w:=by
 go_enter func148,ntmps148
 go_wp2_with fail
 refine (fc_ _ _).mono ?_;rintro e w1 ⟨rfl,rfl⟩
 go_wp2_with fail
 refine (fc_ _ _).mono ?_;rintro e w1 ⟨rfl,rfl⟩;go_wp2
 all_goals go_returns
 all_goals go_light
 all_goals refine⟨a4_ ?_,rfl⟩
 all_goals simp[Ds]
 all_goals omega
theorem d0_ (x y:ByteArray)(w:World):
  Calls prog 149 #[.string x,.string y] w fun e w'=>e=.returned (.int .i64 (ET x y))∧w'=w:=by
 go_enter func149,ntmps149
 go_wp2_with fail
 refine (fd_ _ _).mono ?_;rintro e w1 ⟨rfl,rfl⟩
 go_wp2_with fail
 refine (fd_ _ _).mono ?_;rintro e w1 ⟨rfl,rfl⟩;go_wp2
 all_goals go_returns
 all_goals go_light
 all_goals refine⟨a4_ ?_,rfl⟩
 all_goals simp_all [ET,bl]
theorem mx_ (x y z:Int)(b:Nat)(cap:Nat)(w:World)(h0:w.cell? ⟨b,0,none⟩=some (.int .i64 x))(h1:w.cell? ⟨b,1,none⟩=some (.int .i64 y))(h2:w.cell? ⟨b,2,none⟩=some (.int .i64 z)):
  Calls prog 147 #[.slice (some ⟨b,0,none⟩) 3 cap] w fun e w'=>e=.returned (.int .i64 (or3 x y z))∧w'=w:=by
 by_cases hx:x=0
 ·have ha:(x != 0)=false:=by simp[hx]
  by_cases hy:y=0
  ·have hb:(y != 0)=false:=by simp[hy]
   by_cases hz:z=0
   ·have hc:(z != 0)=false:=by simp[hz]
    have hf:Hid (or3 x y z=0):=by show _=_;simp[or3,hx,hy,hz]
    clear hx hy hz;go_enter func147,ntmps147
    go_wp2_with fail
    go_rounds 4
    go_returns;go_light;exact⟨a4_ hf.out.symm,rfl⟩
   ·have hc:(z != 0)=true:=by simp[hz]
    have hf:Hid (or3 x y z=z):=by show _=_;simp[or3,hx,hy]
    clear hx hy hz;go_enter func147,ntmps147
    go_wp2_with fail
    go_rounds 3
    go_returns;go_light;exact⟨a4_ hf.out.symm,rfl⟩
  ·have hb:(y != 0)=true:=by simp[hy]
   have hf:Hid (or3 x y z=y):=by show _=_;simp[or3,hx,hy]
   clear hx hy;go_enter func147,ntmps147
   go_wp2_with fail
   go_rounds 2
   go_returns;go_light;exact⟨a4_ hf.out.symm,rfl⟩
 ·have ha:(x != 0)=true:=by simp[hx]
  have hf:Hid (or3 x y z=x):=by show _=_;simp[or3,hx]
  clear hx;go_enter func147,ntmps147
  go_wp2_with fail
  go_rounds 1
  go_returns;go_light;exact⟨a4_ hf.out.symm,rfl⟩
theorem Gk (w:World)(x y z:Value)(t:TypeId):(w.alloc (.cells #[x,y,z] t)).drew.cell? ⟨w.heap.size,0,none⟩=some x∧(w.alloc (.cells #[x,y,z] t)).drew.cell? ⟨w.heap.size,1,none⟩=some y∧(w.alloc (.cells #[x,y,z] t)).drew.cell? ⟨w.heap.size,2,none⟩=some z:=
 ⟨Yv _ _ _ 0,Yv _ _ _ 1,Yv _ _ _ 2⟩
theorem gT_ (p q:Ow)(w:World):
  Calls prog 105 #[.agg #[.int .i64 p.a,.int .i64 p.v,.string p.f],.agg #[.int .i64 q.a,.int .i64 q.v,.string q.f]] w fun e w'=>e=.returned (.int .i64 (CQ p q))∧Below w.heap.size w w':=by
 have ha:Hid (CQ p q=or3 (Ds p.a q.a) (Ds p.v q.v) (ET p.f q.f)):=rfl;generalize CQ p q=R at *;obtain⟨a,v,f⟩:=p;obtain⟨b,u,g⟩:=q;simp only at ha;go_enter func105,ntmps105
 go_wp2_with fail
 have x0:((w.alloc (.cells #[.int .i64 a,.int .i64 v,.string f] 44)).alloc (.cells #[.int .i64 b,.int .i64 u,.string g] 44)).cell? ⟨w.heap.size,0,none⟩=some (.int .i64 a):=Am _ (by simp);have x1:((w.alloc (.cells #[.int .i64 a,.int .i64 v,.string f] 44)).alloc (.cells #[.int .i64 b,.int .i64 u,.string g] 44)).cell? ⟨w.heap.size,1,none⟩=some (.int .i64 v):=Am _ (by simp);have x2:((w.alloc (.cells #[.int .i64 a,.int .i64 v,.string f] 44)).alloc (.cells #[.int .i64 b,.int .i64 u,.string g] 44)).cell? ⟨w.heap.size,2,none⟩=some (.string f):=Am _ (by simp);have y0:((w.alloc (.cells #[.int .i64 a,.int .i64 v,.string f] 44)).alloc (.cells #[.int .i64 b,.int .i64 u,.string g] 44)).cell? ⟨w.heap.size+1,0,none⟩=some (.int .i64 b):=by simp
 have y1:((w.alloc (.cells #[.int .i64 a,.int .i64 v,.string f] 44)).alloc (.cells #[.int .i64 b,.int .i64 u,.string g] 44)).cell? ⟨w.heap.size+1,1,none⟩=some (.int .i64 u):=by simp
 have y2:((w.alloc (.cells #[.int .i64 a,.int .i64 v,.string f] 44)).alloc (.cells #[.int .i64 b,.int .i64 u,.string g] 44)).cell? ⟨w.heap.size+1,2,none⟩=some (.string g):=by simp
 have hb:Below w.heap.size w ((w.alloc (.cells #[.int .i64 a,.int .i64 v,.string f] 44)).alloc (.cells #[.int .i64 b,.int .i64 u,.string g] 44)):=by go_grown
 generalize (w.alloc (.cells #[.int .i64 a,.int .i64 v,.string f] 44)).alloc (.cells #[.int .i64 b,.int .i64 u,.string g] 44)=W0 at *
 go_region_held3 (fun u'=>u'.cell? ⟨w.heap.size,0,none⟩=some (.int .i64 a)∧u'.cell? ⟨w.heap.size,1,none⟩=some (.int .i64 v)∧u'.cell? ⟨w.heap.size,2,none⟩=some (.string f)∧u'.cell? ⟨w.heap.size+1,0,none⟩=some (.int .i64 b)∧u'.cell? ⟨w.heap.size+1,1,none⟩=some (.int .i64 u)∧u'.cell? ⟨w.heap.size+1,2,none⟩=some (.string g)) (go_keep)
  (first | (go_at_call 148;refine (dZ_ _ _ _).mono ?_;rintro e w2 ⟨rfl,rfl⟩) | (go_at_call 149;refine (d0_ _ _ _).mono ?_;rintro e w2 ⟨rfl,rfl⟩) | (go_at_call 147;refine (mx_ (Ds a b) (Ds v u) (ET f g) W0.heap.size 3 _ (Gk W0 _ _ _ _).1 (Gk W0 _ _ _ _).2.1 (Gk W0 _ _ _ _).2.2).mono ?_;rintro e w2 ⟨rfl,rfl⟩))
 go_wp2;go_returns;go_light;exact⟨a4_ ha.out.symm,(hb.alloc hb.size _).drew⟩
theorem gU_ (p q:Ow)(w:World):
  Calls prog 134 #[.agg #[.int .i64 p.a,.int .i64 p.v,.string p.f],.agg #[.int .i64 q.a,.int .i64 q.v,.string q.f]] w fun e w'=>e=.returned (.bool (Bc p q))∧Below w.heap.size w w':=by
 have ha:Hid (Bc p q=decide (CQ p q<0)):=(i6_ p q).symm;obtain⟨a,v,f⟩:=p;obtain⟨b,u,g⟩:=q;go_enter func134,ntmps134
 go_wp2_with fail
 refine (gT_ ⟨a,v,f⟩ ⟨b,u,g⟩ _).mono ?_;rintro e w1 ⟨rfl,hb⟩;have hc:Below w.heap.size w w1:=Aa (by go_grown) hb;go_wp2;go_returns;go_light;exact⟨ac_ ha.out.symm,hc⟩
end
section
open Go Go.RowKit Go.BigFrame Tryz
variable{fr st to x y:Int}{l r:List Pt}{b:Nat}{p q:Pt}{w:World}
theorem bo_ (a:Option Addr)(n cap:Nat)(l:List Pt)(w:World)(h:AM w a n l)(hn:n<=4194304):
  Calls prog 39 #[.slice a n cap] w fun e w'=>e=.returned (.int .i64 (Cb l))∧Below w.heap.size w w':=by
 cases hb:Ac l
 ·have hf:Hid (Cb l=-1):=by show _=_;simp[Cb,hb]
  go_enter func39,ntmps39
  go_wp2_with fail
  refine (as_ a n cap l _ h hn).mono ?_;rintro e w1 ⟨rfl,hc⟩;rw[hb];go_wp2;go_returns;go_light;exact⟨a4_ hf.out.symm,hc⟩
 ·have hf:Hid (Cb l=Af l):=by show _=_;simp[Cb,hb]
  have hs:Hid (∀ k,0<=Af (l.take k)∧Af (l.take k)<=100):=i8_ hb;have ha:Hid (l.length=n):=h.len;go_enter func39,ntmps39
  go_wp2_with fail
  refine (as_ a n cap l _ h hn).mono ?_;rintro e w1 ⟨rfl,hc⟩;rw[hb]
  go_wp2_with fail
  go_loopw [3,11] (fun s ix wr=>∃ (k:Nat),k<=n∧ix=.int .i64 k∧s=.int .i64 (Af (l.take k))∧Below w.heap.size w wr) (fun _ ix _=>n-(intOf ix).toNat)
  case atStart=>exact⟨0,Zg _,rfl,rfl,hc⟩
  case round=>
   obtain⟨k,hk,rfl,rfl,hB⟩:=hrel;have hh:=hs.out k;have he:=hs.out (k+1);by_cases hlt:k<n
   ·obtain⟨b,o,p,rfl,hp,c0,c1,c2⟩:=bi_ (h.below hB) hlt;have hg:Hid (Af (l.take (k+1))=Af (l.take k)+p.n):=gc_ hp;have hj:0<=Af (l.take k)+p.n∧Af (l.take k)+p.n<=100:=by rw[<-hg.out];exact he
    clear hp he;generalize Af (l.take k)=s at *;go_wp2;go_roundw
    case rel=>exact⟨k+1,by omega,by go_num,by rw[hg.out],by have:=hB.size;go_grown⟩
    case measure=>simp[intOf];omega
   ·obtain rfl:k=n:=by omega
    go_wp2;go_returns;go_light;refine⟨a4_ ?_,hB⟩;rw[Zk (Zm ha.out),hf.out]
def BD (r:RSt)(p:Pt):RSt:=
 if 100<r.s+p.n then ⟨r.L,r.s+p.n,true⟩ else
 match r.L.getLast? with
 |none=>⟨[p],r.s+p.n,r.ov⟩
 |some q=>if Aw q p then ⟨r.L.dropLast++[⟨q.a,q.f,q.n+p.n⟩],r.s+p.n,r.ov⟩ else
  if r.L.length<16 then ⟨r.L++[p],r.s+p.n,r.ov⟩ else ⟨r.L,r.s+p.n,true⟩
theorem hm_ {r:RSt}(hA:r.s+p.n<=100)(hl:r.L.getLast?=some q)(hg:Aw q p=true):BD r p=⟨r.L.dropLast++[⟨q.a,q.f,q.n+p.n⟩],r.s+p.n,r.ov⟩:=by
 have:¬ 100<r.s+p.n:=by omega
 simp[BD,this,hl,hg]
theorem j0_ {r:RSt}(hA:r.s+p.n<=100)(hl:r.L.getLast?=some q)(hg:Aw q p=false)(hf:r.L.length<16):BD r p=⟨r.L++[p],r.s+p.n,r.ov⟩:=by
 have:¬ 100<r.s+p.n:=by omega
 simp[BD,this,hl,hg,hf]
theorem iE_ {r:RSt}(hA:r.s+p.n<=100)(hl:r.L.getLast?=some q)(hg:Aw q p=false)(hf:¬ r.L.length<16):BD r p=⟨r.L,r.s+p.n,true⟩:=by
 have:¬ 100<r.s+p.n:=by omega
 simp[BD,this,hl,hg,hf]
def Dz (r:RSt):Prop:=0<=r.s∧∀ q∈r.L,1<=q.n∧q.n<=r.s
theorem hn_ (b:Nat)(r:RSt)(p:Pt)(w:World)(h:BH w b r)(hi:Dz r)(hs:r.s<=1000000)(hp1:1<=p.n)(hp2:p.n<=1000000):
  Calls prog 157 #[.pointer (some ⟨b,0,none⟩),.agg #[.int .i64 p.a,.int .i64 p.f,.int .i64 p.n]] w fun e w'=>e=.returned (.tuple #[])∧BH w' b (BD r p)∧w.grownBy w' (some b):=by
 obtain⟨hv,c,hb,hm,ho,e48,e49,e50⟩:=h;obtain⟨hK,hD⟩:=hi;have hH:=hb.lt;have c48:=hb.cell 48;have c49:=hb.cell 49;have c50:=hb.cell 50;rw[e48] at c48;rw[e49] at c49;rw[e50] at c50;have f48:=hb.frozen 48;have f49:=hb.frozen 49;have f50:=hb.frozen 50;by_cases hA:100<r.s+p.n
 ·have hr:Hid (BD r p=⟨r.L,r.s+p.n,true⟩):=by show _=_;simp[BD,hA]
  go_enter func157,ntmps157
  go_wp2_with fail
  refine aE_ 9 (by kernel_rfl) (by kernel_rfl) ?_;simp only[ZP,Yx,ZR,YC]
  repeat still_step
  refine wpStill_nil ?_;go_wp2;go_returns;go_light;refine⟨rfl,?_,?_⟩
  ·rw[hr.out];refine⟨hv,_,(((hb.set 49 _).set 50 _).alloc _).drew,by simp[hm],?_,?_,?_,?_⟩
   ·intro i q hq;have hw:i<r.L.length:=(Zb.1 hq).1;obtain⟨r0,r1,r2⟩:=ho i q hq;refine⟨?_,?_,?_⟩
    all_goals (rw[Za (by omega),Za (by omega)];assumption)
   ·rw[Za (by omega),Za (by omega)];exact e48
   ·rw[Za (by omega),Zh (by omega)]
   ·rw[Zh (by simp[hm])]
  ·exact au_ (af_ (af_ (Yh _ _) _ _) _ _) (((Yg _ _).alloc (Zd _) _).drew)
 ·have hP:IntKind.i64.wrap (r.s+p.n)=r.s+p.n:=by rw[Ys];omega
  have he:Blk ((w.setCell ⟨b,49,none⟩ (.int .i64 (r.s+p.n))).alloc (.cells #[.int .i64 p.a,.int .i64 p.f,.int .i64 p.n] 146)).drew b (c.setIfInBounds 49 (.int .i64 (r.s+p.n))) 218:=((hb.set 49 _).alloc _).drew;have hh:w.grownBy ((w.setCell ⟨b,49,none⟩ (.int .i64 (r.s+p.n))).alloc (.cells #[.int .i64 p.a,.int .i64 p.f,.int .i64 p.n] 146)).drew (some b):=au_ (af_ (Yh _ _) _ _) (((Yg _ _).alloc (Zd _) _).drew);have k48:(c.setIfInBounds 49 (.int .i64 (r.s+p.n)))[48]?=some (.int .i64 r.L.length):=by rw[Za (by omega)];exact e48
  have k49:(c.setIfInBounds 49 (.int .i64 (r.s+p.n)))[49]?=some (.int .i64 (r.s+p.n)):=by rw[Zh (by omega)]
  have k50:(c.setIfInBounds 49 (.int .i64 (r.s+p.n)))[50]?=some (.bool r.ov):=by rw[Za (by omega)];exact e50
  have kp:∀ i q,r.L[i]?=some q->(c.setIfInBounds 49 (.int .i64 (r.s+p.n)))[i*3]?=some (.int .i64 q.a)∧(c.setIfInBounds 49 (.int .i64 (r.s+p.n)))[i*3+1]?=some (.int .i64 q.f)∧(c.setIfInBounds 49 (.int .i64 (r.s+p.n)))[i*3+2]?=some (.int .i64 q.n):=by
   intro i q hq;have hw:i<r.L.length:=(Zb.1 hq).1;obtain⟨r0,r1,r2⟩:=ho i q hq;refine⟨?_,?_,?_⟩
   all_goals (rw[Za (by omega)];assumption)
  have ks:(c.setIfInBounds 49 (.int .i64 (r.s+p.n))).size=51:=by simp[hm]
  have x0:((w.setCell ⟨b,49,none⟩ (.int .i64 (r.s+p.n))).alloc (.cells #[.int .i64 p.a,.int .i64 p.f,.int .i64 p.n] 146)).drew.cell? ⟨w.heap.size,0,none⟩=some (.int .i64 p.a):=by simp[go_sem]
  have x1:((w.setCell ⟨b,49,none⟩ (.int .i64 (r.s+p.n))).alloc (.cells #[.int .i64 p.a,.int .i64 p.f,.int .i64 p.n] 146)).drew.cell? ⟨w.heap.size,1,none⟩=some (.int .i64 p.f):=by simp[go_sem]
  have x2:((w.setCell ⟨b,49,none⟩ (.int .i64 (r.s+p.n))).alloc (.cells #[.int .i64 p.a,.int .i64 p.f,.int .i64 p.n] 146)).drew.cell? ⟨w.heap.size,2,none⟩=some (.int .i64 p.n):=by simp[go_sem]
  have hy:w.heap.size<((w.setCell ⟨b,49,none⟩ (.int .i64 (r.s+p.n))).alloc (.cells #[.int .i64 p.a,.int .i64 p.f,.int .i64 p.n] 146)).drew.heap.size:=by simp
  go_enter func157,ntmps157
  go_wp2_with fail
  refine aE_ 9 (by kernel_rfl) (by kernel_rfl) ?_;simp only[ZP,Yx,ZR,YC]
  repeat still_step
  refine wpStill_nil ?_
  go_wp2_with fail
  generalize hW5:((w.setCell ⟨b,49,none⟩ (.int .i64 (r.s+p.n))).alloc (.cells #[.int .i64 p.a,.int .i64 p.f,.int .i64 p.n] 146)).drew=W5 at he hh x0 x1 x2 hy ⊢;generalize hc5:c.setIfInBounds 49 (.int .i64 (r.s+p.n))=c5 at he k48 k49 k50 kp ks;clear hW5 hc5 c48 c49 c50 f48 f49 f50 e48 e49 e50 ho hm hb;have c48:=(he.cell 48).trans k48;rcases List.eq_nil_or_concat r.L with hL | ⟨L',q,hL⟩
  ·have hr:Hid (BD r p=⟨[p],r.s+p.n,r.ov⟩):=by show _=_;simp[BD,hA,hL]
   rw[hL] at c48 k48;simp at c48 k48
   -- the row is empty: the part is its first
   go_quiet (fail)
   have ha:=he.below (AJ W5 nq);have hk:=au_ hh (AJ W5 nq);have c48':=(ha.cell 48).trans k48;have f48:=ha.frozen 48;obtain⟨v0,y0⟩:=ha.has (i:=0) (by omega);obtain⟨v1,y1⟩:=ha.has (i:=1) (by omega);obtain⟨v2,y2⟩:=ha.has (i:=2) (by omega);have f0:=ha.frozen 0;have f1:=ha.frozen 1;have f2:=ha.frozen 2;replace x0:=Ab (AJ W5 nq) x0;replace x1:=Ab (AJ W5 nq) x1;replace x2:=Ab (AJ W5 nq) x2;generalize W5.drewN nq=W6 at *;clear c48 he hh
   go_wp2_with fail
   refine aE_ 9 (by kernel_rfl) (by kernel_rfl) ?_;simp only[ZP,Yx,ZR,YC]
   repeat still_step
   refine wpStill_nil ?_;go_wp2;go_returns;go_light;refine⟨rfl,?_,?_⟩
   ·rw[hr.out];refine⟨by simp,_,((((ha.set 0 _).set 1 _).set 2 _).set 48 _).drew,by simp[ks],?_,?_,?_,?_⟩
    ·intro i x hx
     have:i=0:=by have:=(Zb.1 hx).1;simp at this;exact this
     subst this;simp at hx;subst hx;refine⟨?_,?_,?_⟩
     all_goals (simp[ks])
    ·simp[ks]
    ·simp[k49]
    ·simp[k50]
   ·exact au_ (af_ (af_ (af_ (af_ hk _ _) _ _) _ _) _ _) ((Yg _ _).drew)
  ·-- there is a last part
   have hg:r.L.length=L'.length+1:=by rw[hL];simp
   have hq:r.L[L'.length]?=some q:=by rw[hL];simp
   have hc:r.L.getLast?=some q:=by rw[hL];simp
   have hp:r.L.dropLast=L':=by rw[hL];simp
   have hF:L'.length<16:=by omega
   obtain⟨q0,q1,q2⟩:=kp _ q hq;have hM:=hD q (Zc hq);rw[hg] at c48 k48;generalize hj:L'.length=j at *;have d0:=(he.cell (j*3)).trans q0;have d1:=(he.cell (j*3+1)).trans q1;have d2:=(he.cell (j*3+2)).trans q2;have c48i:W5.cell? ⟨b,48,none⟩=some (.int .i64 ((j:Int)+1)):=by rw[c48];simp
   have hz:IntKind.i64.wrap ((j:Int)+1-1)=(j:Int):=by rw[Ys];omega
   have ht:(0:Int)<(j:Int)+1:=by omega
   have hl:(j:Int)<16:=by omega
   have hu:(0:Int)<=(j:Int):=by omega
   clear c48;have hB:=Ae c48i;have g0:=Ae d0;have g1:=Ae d1;have g2:=Ae d2;have g3:=Ae x0;have g4:=Ae x1;have g5:=Ae x2;have hG:=aA_ W5
   cases hn:Aw q p
   all_goals
    refine ab_ (by kernel_rfl) (by kernel_rfl) ?_
    repeat (go_big_quiet_step (first | (go_at_call 137;have qq:=gB_ q p;rw[hn] at qq;exact an_ (qq _))))
    refine wpQuiet_nil ?_;intro W6 hx;have hf:=ah_ hx;clear hx hB g0 g1 g2 g3 g4 g5 hG;have ha:=he.below hf;have hk:=au_ hh hf;have c48':=Ab hf c48i;have f48:=ha.frozen 48;replace x0:=Ab hf x0;replace x1:=Ab hf x1;replace x2:=Ab hf x2;clear he hh hf hy
   ·by_cases hfull:j+1<16
    ·have hr:Hid (BD r p=⟨r.L++[p],r.s+p.n,r.ov⟩):=j0_ (by omega) hc hn (by omega);obtain⟨v0,y0⟩:=ha.has (i:=(j+1)*3) (by omega);obtain⟨v1,y1⟩:=ha.has (i:=(j+1)*3+1) (by omega);obtain⟨v2,y2⟩:=ha.has (i:=(j+1)*3+2) (by omega);have f0:=ha.frozen ((j+1)*3);have f1:=ha.frozen ((j+1)*3+1);have f2:=ha.frozen ((j+1)*3+2);have n0:¬ (48=(j+1)*3):=by omega
     have n1:¬ (48=(j+1)*3+1):=by omega
     have n2:¬ (48=(j+1)*3+2):=by omega
     have hC:(j:Int)+1<16:=by omega
     have hI:(0:Int)<=(j:Int)+1:=by omega
     have hJ:((j:Int)+1).toNat=j+1:=by omega
     clear d0 d1 d2 hz ht hl hu
     go_wp2_with fail
     refine aE_ 9 (by kernel_rfl) (by kernel_rfl) ?_;simp only[ZP,Yx,ZR,YC]
     repeat still_step
     refine wpStill_nil ?_;go_wp2;go_returns;go_light;refine⟨rfl,?_,?_⟩
     ·rw[hr.out];refine⟨by simp;omega,_,((((ha.set ((j+1)*3) _).set ((j+1)*3+1) _).set ((j+1)*3+2) _).set 48 _).drew,by simp[ks],?_,?_,?_,?_⟩
      ·intro i x hx;have hE:i<j+2:=by have:=(Zb.1 hx).1;simp[hg] at this;omega
       by_cases hie:i=j+1
       ·subst hie;rw[Zv (by omega),hg] at hx;simp at hx;subst hx;refine⟨?_,?_,?_⟩
        ·rw[Za (by omega),Za (by omega),Za (by omega),Zh (by omega)]
        ·rw[Za (by omega),Za (by omega),Zh (by simp;omega)]
        ·rw[Za (by omega),Zh (by simp;omega)]
       ·rw[ZD (by omega)] at hx;obtain⟨r0,r1,r2⟩:=kp i x hx;refine⟨?_,?_,?_⟩
        all_goals (rw[Za (by omega),Za (by omega),Za (by omega),Za (by omega)];assumption)
      ·rw[Zh (by simp;omega)];simp[hg]
      ·rw[Za (by omega),Za (by omega),Za (by omega),Za (by omega)];exact k49
      ·rw[Za (by omega),Za (by omega),Za (by omega),Za (by omega)];exact k50
     ·exact au_ (af_ (af_ (af_ (af_ hk _ _) _ _) _ _) _ _) ((Yg _ _).drew)
    ·have hr:Hid (BD r p=⟨r.L,r.s+p.n,true⟩):=iE_ (by omega) hc hn (by omega);have f50:=ha.frozen 50;have c50:=(ha.cell 50).trans k50;have hC:¬ (j:Int)+1<16:=by omega
     clear d0 d1 d2 hz ht hl hu;go_wp2;go_returns;go_light;refine⟨rfl,?_,?_⟩
     ·rw[hr.out];refine⟨hv,_,ha.set 50 _,by simp[ks],?_,?_,?_,?_⟩
      ·intro i x hx;have hw:i<r.L.length:=(Zb.1 hx).1;obtain⟨r0,r1,r2⟩:=kp i x hx;refine⟨?_,?_,?_⟩
       all_goals (rw[Za (by omega)];assumption)
      ·rw[Za (by omega),k48,hg]
      ·rw[Za (by omega)];exact k49
      ·rw[Zh (by omega)]
     ·exact af_ hk _ _
   ·have hr:Hid (BD r p=⟨r.L.dropLast++[⟨q.a,q.f,q.n+p.n⟩],r.s+p.n,r.ov⟩):=hm_ (by omega) hc hn;have f2:=ha.frozen (j*3+2);have z2:=(ha.cell (j*3+2)).trans q2;have hN:IntKind.i64.wrap (q.n+p.n)=q.n+p.n:=by rw[Ys];omega
    have hO:IntKind.i64.wrap (j:Int)=(j:Int):=by rw[Ys];omega
    clear d0 d1 d2
    go_wp2_with fail
    refine aE_ 18 (by kernel_rfl) (by kernel_rfl) ?_;simp only[ZP,Yx,ZR,YC]
    repeat still_step
    refine wpStill_nil ?_;go_wp2;go_returns;go_light;refine⟨rfl,?_,?_⟩
    ·rw[hr.out];refine⟨by simp[hg];omega,_,(ha.set (j*3+2) _).drew,by simp[ks],?_,?_,?_,?_⟩
     ·intro i x hx;have hE:i<j+1:=by have:=(Zb.1 hx).1;simp[hg] at this;omega
      rw[hp] at hx;by_cases hie:i=j
      ·subst hie;rw[Zv (by omega),hj] at hx;simp at hx;subst hx;refine⟨?_,?_,?_⟩
       ·rw[Za (by omega)];exact q0
       ·rw[Za (by omega)];exact q1
       ·rw[Zh (by omega)]
      ·rw[ZD (by omega)] at hx;obtain⟨r0,r1,r2⟩:=kp i x (by rw[hL,List.concat_eq_append,ZD (by omega)];exact hx);refine⟨?_,?_,?_⟩
       all_goals (rw[Za (by omega)];assumption)
     ·rw[Za (by omega),k48];simp[hp,hj]
     ·rw[Za (by omega)];exact k49
     ·rw[Za (by omega)];exact k50
    ·exact au_ (af_ hk _ _) ((Yg _ _).drew)
def Bm (r:RSt)(l:List Pt):RSt:=l.foldl BD r
theorem fn_ (r:RSt)(p:Pt):(BD r p).s=r.s+p.n:=by
 unfold BD;split
 ·rfl
 ·split
  ·rfl
  ·split
   ·rfl
   ·split<;>rfl
theorem fJ_ {r:RSt}(h:Dz r)(hp:1<=p.n):Dz (BD r p):=by
 obtain⟨h0,h1⟩:=h;have ha:∀ q∈r.L,1<=q.n∧q.n<=r.s+p.n:=fun q hq=>by have:=h1 q hq;omega
 refine⟨by rw[fn_];omega,?_⟩;rw[fn_];unfold BD;split
 ·exact ha
 ·split
  ·rename_i hl;intro q hq;simp at hq;subst hq;omega
  ·rename_i q0 hl;have hb:=h1 q0 (List.mem_of_getLast? hl);split
   ·intro q hq;simp only[Zs,YP] at hq;rcases hq with hq | rfl
    ·exact ha q (List.dropLast_subset _ hq)
    ·show 1<=q0.n+p.n∧q0.n+p.n<=r.s+p.n;omega
   ·split
    ·intro q hq;simp only[Zs,YP] at hq;rcases hq with hq | rfl
     ·exact ha q hq
     ·omega
    ·exact ha
theorem j1_ (p:Pt)(x y:Int)(w:World)(hf:-1000<=p.f)(hf':p.f<=1000)(hx0:0<=x)(hx1:x<=1000)(hy0:0<=y)(hy1:y<=1000):
  Calls prog 158 #[.agg #[.int .i64 p.a,.int .i64 p.f,.int .i64 p.n],.int .i64 x,.int .i64 y] w fun e w'=>e=.returned (.agg #[.int .i64 (Be p x y).a,.int .i64 (Be p x y).f,.int .i64 (Be p x y).n])∧Below w.heap.size w w':=by
 obtain⟨a,f,n⟩:=p;simp only at hf hf'
 cases ha:(a==0)
 ·have hc:Hid (Be ⟨a,f,n⟩ x y=⟨a,f+x,y-x⟩):=by show _=_;simp[Be,ha]
  go_enter func158,ntmps158;go_wp2;go_returns;go_light;refine⟨?_,by go_grown⟩;rw[hc.out]
 ·have hc:Hid (Be ⟨a,f,n⟩ x y=⟨0,0,y-x⟩):=by show _=_;simp[Be,ha]
  go_enter func158,ntmps158;go_wp2;go_returns;go_light;refine⟨?_,by go_grown⟩;rw[hc.out]
theorem n0_ {rk:RSt}(hx:max (fr-st) 0=x)(hy:min (to-st) p.n=y)(h:x<y):Bm rk (slp fr to st (p::r))=Bm (BD rk (Be p x y)) (slp fr to (st+p.n) r):=by
 rw[eN_ hx hy h];rfl
theorem bf_ (b:Nat)(r:RSt)(a:Option Addr)(n cap:Nat)(l:List Pt)(fr to:Int)(w:World)(hR:BH w b r)(hi:Dz r)(hs:r.s<=900000)(h:AM w a n l)(hne:∀ ad,a=some ad->ad.block≠b)(hn:n<=16)(hl:∀ p∈l,1<=p.n∧p.n<=100∧0<=p.f∧p.f<=100)(hf0:0<=fr)(hf1:fr<=10000)(ht0:0<=to)(ht1:to<=10000):
  Calls prog 129 #[.pointer (some ⟨b,0,none⟩),.slice a n cap,.int .i64 fr,.int .i64 to] w fun e w'=>e=.returned (.tuple #[])∧BH w' b (Bm r (slp fr to 0 l))∧Dz (Bm r (slp fr to 0 l))∧(Bm r (slp fr to 0 l)).s<=r.s+1600∧w.grownBy w' (some b):=by
 have he:Hid (l.length=n):=h.len;go_enter func129,ntmps129
 go_wp2_with fail
 go_loopw [8,15] (fun s ix wr=>∃ (k:Nat) (st:Int) (rk:RSt),k<=n∧ix=.int .i64 k∧s=.int .i64 st∧0<=st∧st<=100*k∧BH wr b rk∧Dz rk∧rk.s<=r.s+100*k∧Hid (Bm r (slp fr to 0 l)=Bm rk (slp fr to st (l.drop k)))∧w.grownBy wr (some b)) (fun _ ix _=>n-(intOf ix).toNat)
 case atStart=>exact⟨0,0,r,Zg _,rfl,rfl,by omega,by omega,hR,hi,by omega,rfl,Yh _ _⟩
 case round=>
  obtain⟨k,st,rk,hk,rfl,rfl,hw,ho,hb,hc,hz,hI,hg⟩:=hrel;by_cases hlt:k<n
  ·obtain⟨b',o,p,rfl,hp,c0,c1,c2⟩:=bi_ (h.grown hg hne) hlt;have hd:Hid (l.drop k=p::l.drop (k+1)):=al_ hp;obtain⟨hr,ht,hu,hv⟩:=hl p (Zc hp);clear hp;have hq:=hb.lt;by_cases hxy:max (fr-st) 0<min (to-st) p.n
   ·by_cases hx:fr-st<0
    all_goals by_cases hy:p.n<to-st
    all_goals
     go_wp2_with fail
     refine (j1_ p _ _ _ (by omega) (by omega) (by omega) (by omega) (by omega) (by omega)).mono ?_;rintro e w1 ⟨rfl,hf⟩;obtain⟨x0,x1,x2,ha,ho⟩:=De hf;clear hf
     go_wp2_with fail
     refine (hn_ b rk (Be p _ _) _ (hb.below ha) hc (by omega) (by rw[gf_];omega) (by rw[gf_];omega)).mono ?_;rintro e w2 ⟨rfl,hj,hh⟩;have z2:=hh.cell x2 (by simp;omega);have hm:=aV_ (au_ hg ha) hh;clear x0 x1 x2 ha c0 c1 c2;go_wp2;go_roundw
     case rel=>exact⟨k+1,st+p.n,_,by omega,by go_num,by go_num,by omega,by omega,hj,fJ_ hc (by rw[gf_];omega),by rw[fn_,gf_];omega,by show _=_;rw[hI.out,hd.out];exact n0_ (by omega) (by omega) (by omega),hm⟩
     case measure=>simp[intOf];omega
   ·by_cases hx:fr-st<0
    all_goals by_cases hy:p.n<to-st
    all_goals try (exfalso;omega)
    all_goals
     go_wp2;go_roundw
     case rel=>exact⟨k+1,st+p.n,rk,by omega,by go_num,by go_num,by omega,by omega,hb.below ((Yg _ _).alloc (Zd _) _),hc,by omega,by show _=_;rw[hI.out,hd.out,fo_ hxy],au_ hg ((Yg _ _).alloc (Zd _) _)⟩
     case measure=>simp[intOf];omega
  ·obtain rfl:k=n:=by omega
   go_wp2;go_returns;go_light;rw[Ze (Zm he.out)] at hI;rw[hI.out];exact⟨rfl,hb,hc,by show rk.s<=_;omega,hg⟩
theorem ho_ (b:Nat)(r:RSt)(w:World)(hR:BH w b r)(hov:r.ov=true):
  Calls prog 130 #[.pointer (some ⟨b,0,none⟩)] w fun e w'=>e=.returned (.tuple #[.slice none 0 0,.bool false])∧w'=w:=by
 obtain⟨he,c,ha,hc,hb,e48,e49,e50⟩:=hR;have c50:=(ha.cell 50).trans e50;rw[hov] at c50;go_enter func130,ntmps130;go_wp2;go_returns;exact⟨rfl,rfl⟩
theorem nb_ (b:Nat)(r:RSt)(w:World)(hR:BH w b r)(hov:r.ov=false):
  Calls prog 130 #[.pointer (some ⟨b,0,none⟩)] w fun e w'=>∃ a cap,e=.returned (.tuple #[.slice a r.L.length cap,.bool true])∧Ad Pt.cs 3 146 w' w.heap.size a r.L.length cap r.L∧Below w.heap.size w w':=by
 have he:=hR.sl;obtain⟨ho,c,ha,hl,hk,e48,e49,e50⟩:=hR;have c50:=(ha.cell 50).trans e50;have c48:=(ha.cell 48).trans e48;rw[hov] at c50;obtain⟨i0,hi,hf,hh,hj⟩:=info_parts FP;have hp:(r.L.length:Int)<=16:=by omega
 have hm:(0:Int)<=r.L.length:=by omega
 generalize hn:r.L.length=n at *;go_enter func130,ntmps130
 go_wp2_with fail
 refine aE_ 8 (by kernel_rfl) (by kernel_rfl) ?_;simp only[ZP,Yx,ZR,YC]
 repeat still_step
 refine wpStill_nil ?_;refine wpList_append_own _ rfl _ _ 85 rfl w.heap.size 146 i0 (.agg #[.int .i64 0,.int .i64 0,.int .i64 0]) 3 24 underlying85 hi hf hh hj rfl (by decide) (.slice none 0 0) 0 [] rfl (World.ownsRow_nil _ _ _ _) ⟨b,0,none⟩ n 16 (r.L.flatMap Pt.cs) rfl (by rw[aY_ bF_,hn]) (AE.src bF_ he.drew) (cI_ _) (by unfold maxLen;omega) (by omega) (by simp) ?_;intro v' w1 hb hg _;simp only[Zq,ZM] at hb;obtain⟨a,cap,rfl,hc⟩:=bz_ bF_ hn hb;have hB:Below w.heap.size w w1:=((Yg _ _).drew).grown hg (by simp) (fun k e=>by simp[Value.ownBlock] at e);go_wp2;go_returns;exact⟨a,cap,rfl,hc,hB⟩
def BK (l:List Pt):RSt:=Bm ⟨[],0,false⟩ l
theorem gZ_ (w:World):BH (w.alloc (.cells #[.int .i64 0,.int .i64 0,.int .i64 0,.int .i64 0,.int .i64 0,.int .i64 0,.int .i64 0,.int .i64 0,.int .i64 0,.int .i64 0,.int .i64 0,.int .i64 0,.int .i64 0,.int .i64 0,.int .i64 0,.int .i64 0,.int .i64 0,.int .i64 0,.int .i64 0,.int .i64 0,.int .i64 0,.int .i64 0,.int .i64 0,.int .i64 0,.int .i64 0,.int .i64 0,.int .i64 0,.int .i64 0,.int .i64 0,.int .i64 0,.int .i64 0,.int .i64 0,.int .i64 0,.int .i64 0,.int .i64 0,.int .i64 0,.int .i64 0,.int .i64 0,.int .i64 0,.int .i64 0,.int .i64 0,.int .i64 0,.int .i64 0,.int .i64 0,.int .i64 0,.int .i64 0,.int .i64 0,.int .i64 0,.int .i64 0,.int .i64 0,.bool false] 218)) w.heap.size ⟨[],0,false⟩:=
 ⟨Zg _,_,Blk.new _ _ _,rfl,fun i p hp=>by simp at hp,rfl,rfl,rfl⟩
theorem fK_:Dz ⟨[],0,false⟩:=⟨YB _,fun q hq=>by simp at hq⟩
def CS (r:RSt):Option (List Pt):=if r.ov then none else some r.L
def CY (B:Nat)(e:Ending)(w':World):Option (List Pt)->Prop
 |none=>e=.returned (.tuple #[.slice none 0 0,.bool false])
 |some L=>∃ a n cap,e=.returned (.tuple #[.slice a n cap,.bool true])∧Ad Pt.cs 3 146 w' B a n cap L
theorem cb_ (B b:Nat)(r:RSt)(w:World)(hR:BH w b r)(hB:B<=w.heap.size):
  Calls prog 130 #[.pointer (some ⟨b,0,none⟩)] w fun e w'=>CY B e w' (CS r)∧Below w.heap.size w w':=by
 cases ha:r.ov
 ·refine (nb_ b r w hR ha).mono ?_;rintro e w' ⟨a,cap,rfl,hc,hb⟩;exact⟨by simp only[CS,ha];exact⟨a,_,cap,rfl,hc.mono hB⟩,hb⟩
 ·refine (ho_ b r w hR ha).mono ?_;rintro e w' ⟨rfl,rfl⟩;exact⟨by simp only[CS,ha];rfl,Yg _ _⟩
def AY (l:List Pt)(fr to:Int):Option (List Pt):=
 if Ac l=true∧0<=fr∧fr<=Af l∧fr<=to∧to<=Af l then CS (BK (slp fr to 0 l)) else none
theorem hp_ (a:Option Addr)(n cap:Nat)(l:List Pt)(fr to:Int)(w:World)(h:AM w a n l)(hn:n<=4194304)(hb:∀ ad,a=some ad->ad.block<w.heap.size):
  Calls prog 76 #[.slice a n cap,.int .i64 fr,.int .i64 to] w fun e w'=>CY w.heap.size e w' (AY l fr to)∧Below w.heap.size w w':=by
 cases ha:Ac l
 ·have hf:AY l fr to=none:=by simp[AY,ha]
  rw[hf];go_enter func76,ntmps76
  go_wp2_with fail
  refine (as_ a n cap l _ h hn).mono ?_;rintro e w1 ⟨rfl,hg⟩;rw[ha];go_wp2;go_returns;exact⟨rfl,hg⟩
 ·have hs:Hid (Cb l=Af l):=by show _=_;simp[Cb,ha]
  have hm:=(ae_ ha).2.2;have hu:=az_ l (ae_ ha).2.1;have ho:n<=16:=by rw[<-h.len];exact (ae_ ha).1
  by_cases hr:0<=fr∧fr<=Af l∧fr<=to∧to<=Af l
  ·have hf:AY l fr to=CS (BK (slp fr to 0 l)):=by simp[AY,ha,hr]
   rw[hf];clear hf;generalize hoo':CS (BK (slp fr to 0 l))=oo;have hl:Hid (CS (BK (slp fr to 0 l))=oo):=hoo';clear hoo';obtain⟨r1,r2,r3,r4⟩:=hr;go_enter func76,ntmps76
   go_wp2_with fail
   refine (as_ a n cap l _ h hn).mono ?_;rintro e w1 ⟨rfl,hg⟩;rw[ha]
   go_wp2_with fail
   refine (bo_ a n cap l _ (h.below hg) hn).mono ?_;rintro e w2 ⟨rfl,hc⟩;rw[hs.out];replace hc:=Aa hg hc
   go_wp2_with fail
   refine (bf_ w2.heap.size _ a n cap l fr to _ (gZ_ w2) fK_ (by show (0:Int)<=_;omega) ((h.below hc).alloc _) (fun ad hq=>by have:=hb ad hq;have:=hc.size;omega) ho (ci_ ha) (by omega) (by omega) (by omega) (by omega)).mono ?_;rintro e w3 ⟨rfl,hp,_,_,ht⟩;have hk:Below w.heap.size w w3:=ao_ (Aa hc ((Yg _ _).alloc (Zd _) _)) ht hc.size
   go_wp2_with fail
   refine (cb_ w.heap.size _ _ _ hp hk.size).mono ?_;rintro e w4 ⟨he,hh⟩;replace hh:=Aa hk hh;change CY _ _ _ (CS (BK (slp fr to 0 l))) at he;rw[hl.out] at he;clear hl
   cases oo with
   |none=>
    obtain rfl:=he;go_wp2;go_returns;exact⟨rfl,hh⟩
   |some L=>
    obtain⟨a',n',cap',rfl,hj⟩:=he;go_wp2;go_returns;exact⟨⟨a',n',cap',rfl,hj⟩,hh⟩
  ·have hf:AY l fr to=none:=by simp only[AY,ha,true_and];rw[if_neg hr]
   rw[hf];clear hf;go_enter func76,ntmps76
   go_wp2_with fail
   refine (as_ a n cap l _ h hn).mono ?_;rintro e w1 ⟨rfl,hg⟩;rw[ha]
   go_wp2_with fail
   refine (bo_ a n cap l _ (h.below hg) hn).mono ?_;rintro e w2 ⟨rfl,hc⟩;rw[hs.out];replace hc:=Aa hg hc;go_wp2
   all_goals go_returns
   all_goals exact⟨rfl,hc⟩
end
section
open Go Go.RowKit Go.BigFrame Tryz
variable{size:Int}{B k:Nat}{a:Option Addr}{w:World}
def HL:Option Addr->Option Nat
 |none=>none
 |some ad=>some ad.block
theorem jc_ {w1 w':World}{row:Option Nat}(hb:Below w.heap.size w w1)(hg:w1.grownBy w' row)(hn:∀ k,row=some k->w.heap.size<=k):Below w.heap.size w w':=hb.grown hg hb.size hn
theorem pl_ (h:∀ ad,a=some ad->B<=ad.block):∀ k,HL a=some k->B<=k:=by
 intro k hk
 cases a with
 |none=>cases hk
 |some ad=>have:=h ad rfl;simp[HL] at hk;omega
theorem bT_ (d:ByteArray)(w:World)(hd:d.size<=9223372036854775807):
  Calls prog 131 #[.string d] w fun e w'=>e=.returned (.bool (nameB d))∧w'=w:=by
 by_cases h1:1<=d.size∧d.size<=8
 ·have ha:Hid (nameB d=(d.data.toList.drop 0).all Eb):=by show _=_;simp[nameB,h1]
  obtain⟨h1,he⟩:=h1;go_enter func131,ntmps131
  go_wp2_with fail
  go_loop [14] (fun ix=>∃ (k:Nat),k<=d.size∧ix=.int .i64 k∧Hid (nameB d=(d.data.toList.drop k).all Eb)) (fun ix=>d.size-(intOf ix).toNat)
  case atStart=>exact⟨0,Zg _,rfl,ha⟩
  case round=>
   obtain⟨k,hk,rfl,hI⟩:=hrel;by_cases hlt:k<d.size
   ·have hs:Hid (d.data.toList.drop k=d[k]::d.data.toList.drop (k+1)):=fH_ d k hlt
    cases hc:Eb d[k]
    ·have hb:(d[k].toNat:Int)<97∨122<(d[k].toNat:Int):=by simp[Eb] at hc;omega
     go_wp2
     all_goals go_returns
     all_goals go_light
     all_goals (refine⟨ac_ ?_,rfl⟩;rw[hI.out,hs.out];simp[hc])
    ·have hb:97<=(d[k].toNat:Int)∧(d[k].toNat:Int)<=122:=by simp[Eb] at hc;omega
     obtain⟨hf,hg⟩:=hb;go_wp2;go_round
     case rel=>exact⟨k+1,by omega,by go_num,by show _=_;rw[hI.out,hs.out];simp[hc]⟩
     case measure=>simp[intOf];omega
   ·obtain rfl:k=d.size:=by omega
    go_wp2;go_returns;go_light;refine⟨ac_ ?_,rfl⟩;rw[hI.out,Ze (by simp)];rfl
 ·have ha:Hid (nameB d=false):=by show _=_;simp[nameB];omega
  go_enter func131,ntmps131;go_wp2
  all_goals go_returns
  all_goals go_light
  all_goals exact⟨ac_ ha.out.symm,rfl⟩
end
section
open Go Go.RowKit Go.BigFrame Tryz
variable{l:List Ct}{t:TypeId}{u x y z:Value}{w w1:World}
theorem bp_ (p:Ow)(w:World)(hd:p.f.size<=9223372036854775807):
  Calls prog 133 #[.agg #[.int .i64 p.a,.int .i64 p.v,.string p.f]] w fun e w'=>e=.returned (.bool (AX p))∧Below w.heap.size w w':=by
 by_cases h:1<=p.a∧p.a<=400∧1<=p.v∧p.v<=1000000000
 ·have ha:Hid (AX p=nameB p.f):=by show _=_;simp[AX,h]
  generalize AX p=R at *;obtain⟨a,v,f⟩:=p;simp only at *;obtain⟨h1,h2,h3,h4⟩:=h;go_enter func133,ntmps133
  go_wp2_with fail
  refine (bT_ f _ hd).mono ?_;rintro e w1 ⟨rfl,rfl⟩;go_wp2;go_returns;go_light;exact⟨ac_ ha.out.symm,by go_grown⟩
 ·have ha:Hid (AX p=false):=by show _=_;simp[AX];omega
  generalize AX p=R at *;obtain⟨a,v,f⟩:=p;simp only at *;go_enter func133,ntmps133;go_wp2
  all_goals go_returns
  all_goals go_light
  all_goals exact⟨ac_ ha.out.symm,by go_grown⟩
theorem FC (hb:Below (w.alloc (.cells #[x,y,z,u] t)).heap.size (w.alloc (.cells #[x,y,z,u] t)) w1):
  w1.cell? ⟨w.heap.size,0,none⟩=some x∧w1.cell? ⟨w.heap.size,1,none⟩=some y∧w1.cell? ⟨w.heap.size,2,none⟩=some z∧w1.cell? ⟨w.heap.size,3,none⟩=some u∧Below w.heap.size w w1∧w.heap.size<w1.heap.size:=
 ⟨Ab hb (Yv _ _ _ 0),Ab hb (Yv _ _ _ 1),Ab hb (Yv _ _ _ 2),Ab hb (Yv _ _ _ 3),
  ((Yg _ _).alloc (Zd _) _).trans (hb.mono (by simp)),by have:=hb.size;simp at this;omega⟩
theorem gG_ (a:Option Addr)(n cap:Nat)(l:List Ct)(w:World)(h:A4 w a n l)(hstr:Bw l)(hn:n<=4194304):
  Calls prog 83 #[.slice a n cap] w fun e w'=>e=.returned (.bool (A3 l))∧Below w.heap.size w w':=by
 have hc:Hid (l.length=n):=h.len;by_cases h2:n<=200
 ·have hb:Hid (A3 l=(l.drop 0).all BR):=by show _=_;simp[A3,hc.out,h2]
  go_enter func83,ntmps83
  go_wp2_with fail
  go_loopw [10] (fun ix wr=>∃ (k:Nat),k<=n∧ix=.int .i64 k∧Hid (A3 l=(l.drop k).all BR)∧Below w.heap.size w wr) (fun ix _=>n-(intOf ix).toNat)
  case atStart=>exact⟨0,Zg _,rfl,hb,Yg _ _⟩
  case round=>
   obtain⟨k,hk,rfl,hI,hB⟩:=hrel;by_cases hlt:k<n
   ·obtain⟨b,o,p,rfl,hp,c0,c1,c2,c3⟩:=aN_ (h.below hB) hlt;have hd:Hid (l.drop k=p::l.drop (k+1)):=al_ hp;have hg:=hstr.at hp;clear hp;have hr:=hB.size
    cases hf:AX p.o
    ·go_wp2_with fail
     refine (bp_ p.o _ hg).mono ?_;rintro e w1 ⟨rfl,he⟩;obtain⟨x0,x1,x2,x3,ha,hj⟩:=FC he;rw[hf];go_wp2;go_returns;go_light;refine⟨ac_ ?_,Aa hB ha⟩;rw[hI.out,hd.out];simp[BR,hf]
    ·by_cases hok:-1000<=p.n∧p.n<=1000∧p.n≠0
     ·obtain⟨hl,hm,hh⟩:=hok;have hz:(p.n==0)=false:=ZV.2 hh
      go_wp2_with fail
      refine (bp_ p.o _ hg).mono ?_;rintro e w1 ⟨rfl,he⟩;obtain⟨x0,x1,x2,x3,ha,hj⟩:=FC he;rw[hf];go_wp2;go_roundw
      case rel=>exact⟨k+1,by omega,by go_num,by show _=_;rw[hI.out,hd.out];simp[BR,hf,hl,hm,hh],Aa hB ha⟩
      case measure=>simp[intOf];omega
     ·have hz:Hid (BR p=false):=by
       show _=_;by_cases hz:p.n=0
       ·simp[BR,hz]
       ·simp[BR,hz];omega
      go_wp2_with fail
      refine (bp_ p.o _ hg).mono ?_;rintro e w1 ⟨rfl,he⟩;obtain⟨x0,x1,x2,x3,ha,hj⟩:=FC he;rw[hf]
      cases ho:(p.n==0)
      all_goals (have hq:=ho;simp at hq)
      all_goals go_wp2
      all_goals go_returns
      all_goals go_light
      all_goals refine⟨ac_ ?_,Aa hB ha⟩
      all_goals (rw[hI.out,hd.out];simp[hz.out])
   ·obtain rfl:k=n:=by omega
    go_wp2;go_returns;go_light;refine⟨ac_ ?_,hB⟩;rw[hI.out,Ze (Zm hc.out)];rfl
 ·have hb:Hid (A3 l=false):=by show _=_;have:=hc.out;simp[A3];omega
  go_enter func83,ntmps83;go_wp2;go_returns;go_light;exact⟨ac_ hb.out.symm,Yg _ _⟩
theorem cK_ (a:Option Addr)(n cap:Nat)(l:List Ct)(w:World)(h:A4 w a n l)(hstr:Bw l)(hn:n<=4194304):
  Calls prog 82 #[.slice a n cap] w fun e w'=>e=.returned (.bool (AN l))∧Below w.heap.size w w':=by
 have he:Hid (l.length=n):=h.len;by_cases h2:n<=200
 ·have hc:Hid (AN l=rgo (aheadC l 0) (l.drop 0)):=by show _=_;simp[AN,he.out,h2,aheadC]
  go_enter func82,ntmps82
  go_wp2_with fail
  go_loopw [10] (fun ix wr=>∃ (k:Nat),k<=n∧ix=.int .i64 k∧Hid (AN l=rgo (aheadC l k) (l.drop k))∧Below w.heap.size w wr) (fun ix _=>n-(intOf ix).toNat)
  case atStart=>exact⟨0,Zg _,rfl,hc,Yg _ _⟩
  case round=>
   obtain⟨k,hk,rfl,hI,hB⟩:=hrel;by_cases hlt:k<n
   ·obtain⟨b,o,p,rfl,hp,c0,c1,c2,c3⟩:=aN_ (h.below hB) hlt;have hd:Hid (l.drop k=p::l.drop (k+1)):=al_ hp;have hq:Hid (l[k]?=some p):=hp;have hg:=hstr.at hp;clear hp;have hE:=hB.size
    cases hf:AX p.o
    ·go_wp2_with fail
     refine (bp_ p.o _ hg).mono ?_;rintro e w1 ⟨rfl,hb⟩;obtain⟨x0,x1,x2,x3,ha,hl⟩:=FC hb;rw[hf];go_wp2;go_returns;go_light;refine⟨ac_ ?_,Aa hB ha⟩;rw[hI.out,hd.out];cases aheadC l k<;>simp[rgo,CG,hf]
    ·by_cases hok:1<=p.n∧p.n<=1000
     ·obtain⟨hu,hv⟩:=hok;have ht:Hid (CG p=true):=by show _=_;simp[CG,hf,hu,hv]
      rcases k with _ | j
      ·simp only[Nat.zero_mul,Nat.add_zero] at c0 c1 c2 c3
       go_wp2_with fail
       refine (bp_ p.o _ hg).mono ?_;rintro e w1 ⟨rfl,hb⟩;obtain⟨x0,x1,x2,x3,ha,hl⟩:=FC hb;rw[hf]
       go_wp2_with fail
       go_quiet (fail)
       go_wp2;go_roundw
       case rel=>exact⟨1,by omega,by go_num,by show _=_;rw[hI.out,hd.out,gH_,bU_,hq.out];simp[rgo,ht.out],Aa hB (Aa ha (AJ _ _))⟩
       case measure=>simp[intOf];omega
      ·obtain⟨b',o',q,hr,hs,d0,d1,d2,d3⟩:=aN_ (h.below hB) (k:=j) (by omega);obtain⟨rfl,rfl⟩:b=b'∧o=o':=by simpa using hr
       have ho:Hid (aheadC l (j+1)=some q):=by show _=_;rw[bU_];exact hs
       clear hs hr
       cases hh:Bc q.o p.o
       all_goals
        go_wp2_with fail
        refine (bp_ p.o _ hg).mono ?_;rintro e w1 ⟨rfl,hb⟩;obtain⟨x0,x1,x2,x3,ha,hl⟩:=FC hb;rw[hf];replace d0:=Ab ha d0;replace d1:=Ab ha d1;replace d2:=Ab ha d2;have hj:(0:Int)<(j:Int)+1:=by omega
        have hw:(j:Int)<n:=by omega
        have hy:(0:Int)<=j:=by omega
        have hC:IntKind.i64.wrap ((j:Int)+1-1)=(j:Int):=by rw[Ys];omega
        have hD:IntKind.i64.wrap (j:Int)=(j:Int):=by rw[Ys];omega
        clear c0 c1 c2 c3
        go_wp2_with fail
        have g0:=Ae x0;have g1:=Ae x1;have g2:=Ae x2;have g3:=Ae d0;have g4:=Ae d1;have g5:=Ae d2;have hA:=aA_ w1;refine ab_ (by kernel_rfl) (by kernel_rfl) ?_
        repeat (go_big_quiet_step (first | (go_at_call 134;have qq:=gU_ q.o p.o;rw[hh] at qq;exact an_ (qq _))))
        refine wpQuiet_nil ?_;intro w2 hx;have hm:=ah_ hx;clear hx;go_wp2
       ·go_returns;go_light;refine⟨ac_ ?_,Aa hB (Aa ha hm)⟩;rw[hI.out,hd.out,ho.out];simp[rgo,hh]
       ·go_roundw
        case rel=>exact⟨j+2,by omega,by go_num,by show _=_;rw[hI.out,hd.out,ho.out,bU_,hq.out];simp[rgo,hh,ht.out],Aa hB (Aa ha hm)⟩
        case measure=>simp[intOf];omega
     ·have hz:Hid (CG p=false):=by show _=_;simp[CG];omega
      go_wp2_with fail
      refine (bp_ p.o _ hg).mono ?_;rintro e w1 ⟨rfl,hb⟩;obtain⟨x0,x1,x2,x3,ha,hl⟩:=FC hb;rw[hf];go_wp2
      all_goals go_returns
      all_goals go_light
      all_goals refine⟨ac_ ?_,Aa hB ha⟩
      all_goals (rw[hI.out,hd.out];cases aheadC l k<;>simp[rgo,hz.out])
   ·obtain rfl:k=n:=by omega
    go_wp2;go_returns;go_light;refine⟨ac_ ?_,hB⟩;rw[hI.out,Ze (Zm he.out)];cases aheadC l k<;>rfl
 ·have hc:Hid (AN l=false):=by show _=_;have:=he.out;simp[AN];omega
  go_enter func82,ntmps82;go_wp2;go_returns;go_light;exact⟨ac_ hc.out.symm,Yg _ _⟩
end
end Go.Proofs.YtdmeabghpchckaaGreatDoor
