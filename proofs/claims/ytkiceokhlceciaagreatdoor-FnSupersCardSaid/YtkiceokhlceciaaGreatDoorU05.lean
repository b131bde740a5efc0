/- ownerOk of the program, l3Owner of the model. -/
import Derived.Test.YtkiceokhlceciaaGreatDoorU01
import Derived.Test.YtkiceokhlceciaaGreatDoorU03
set_option maxHeartbeats 20000000
set_option maxRecDepth 100000
namespace Go.Proofs.YtkiceokhlceciaaGreatDoor
section
open Go Go.RowKit Go.BigFrame Tryz
variable{w:World}
theorem CS (w:World)(b i:Nat)(v:Value):w.grownBy (w.setCell ⟨b,i,none⟩ v) (some b):=af_ (Yh _ _) i v
end
section
open Go Go.RowKit
variable{c:Ct}{a b:Ow}
def B9 (l:List Ct):Prop:=l.Pairwise (fun x y=>Bk x.o y.o=true)
theorem dA_ (h:Bk a b=true):BV a b=false:=by
 cases e:BV a b
 ·rfl
 ·rw[aM_.1 e,gD_] at h;cases h
theorem ge_ (h:BV a b=false):BV b a=false:=by
 cases e:BV b a
 ·rfl
 ·rw[aM_.1 e,a3_] at h;cases h
theorem cc_ {o:Ow}:∀ {l:List Ct},(∀ c∈l,Bk o c.o=true)->tot o l=0
 |[],_=>rfl
 |c::r,h=>by
  have h1:=ge_ (dA_ (h c (by simp)));simp only[tot,h1,Zj,if_false];rw[cc_ (fun x hx=>h x (by simp[hx]))];rfl
theorem jX_ (o:Ow)(c:Ct):∀ l:List Ct,tot o (BD l c)=tot o l+(if BV c.o o=true then c.n else 0)
 |[]=>by simp[BD,tot]
 |x::r=>by
  unfold BD;split
  ·simp only[tot,jX_ o c r];omega
  ·split
   ·rename_i h1 h2;have e:=aM_.1 h2;split
    ·simp only[tot,e];split<;>omega
    ·simp only[tot,e];split<;>omega
   ·simp only[tot];omega
theorem jY_ {z:Ow}(hc:Bk z c.o=true):∀ {l:List Ct},(∀ x∈l,Bk z x.o=true)->∀ x∈BD l c,Bk z x.o=true
 |[],_=>by intro x hx;simp[BD] at hx;subst hx;exact hc
 |y::r,h=>by
  have hy:=h y (by simp);have hr:∀ x∈r,Bk z x.o=true:=fun x hx=>h x (by simp[hx]);unfold BD;split
  ·intro x hx;rcases Zn.1 hx with rfl | hx
   ·exact hy
   ·exact jY_ hc hr x hx
  ·split
   ·split
    ·intro x hx;rcases Zn.1 hx with rfl | hx
     ·exact hc
     ·exact hr x hx
    ·exact hr
   ·intro x hx;rcases Zn.1 hx with rfl | hx
    ·exact hc
    ·exact h x hx
theorem gE_ (c:Ct):∀ {l:List Ct},B9 l->B9 (BD l c)
 |[],_=>by simp[BD,B9]
 |y::r,h=>by
  obtain⟨h1,h2⟩:=Ye.1 h;unfold BD;split
  ·rename_i k;exact Ye.2 ⟨jY_ k h1,gE_ c h2⟩
  ·rename_i k;split
   ·rename_i e;have e:=aM_.1 e;split
    ·exact Ye.2 ⟨fun x hx=>by simp only[<-e];exact h1 x hx,h2⟩
    ·exact h2
   ·rename_i e;have ha:Bk c.o y.o=true:=ct_ (by simpa using k) (fun e'=>e (aM_.2 e'));refine Ye.2 ⟨fun x hx=>?_,h⟩;rcases Zn.1 hx with rfl | hx
    ·exact ha
    ·exact b7_ ha (h1 x hx)
theorem gF_ (hc:c.n≠0):∀ {l:List Ct},BO l->BO (BD l c)
 |[],_=>by intro x hx;simp[BD] at hx;subst hx;exact hc
 |y::r,h=>by
  have hy:=h y (by simp);have hr:BO r:=fun x hx=>h x (by simp[hx]);unfold BD;split
  ·intro x hx;rcases Zn.1 hx with rfl | hx
   ·exact hy
   ·exact gF_ hc hr x hx
  ·split
   ·split
    ·rename_i k;intro x hx;rcases Zn.1 hx with rfl | hx
     ·exact k
     ·exact hr x hx
    ·exact hr
   ·intro x hx;rcases Zn.1 hx with rfl | hx
    ·exact hc
    ·exact h x hx
theorem cS_:∀ {l m:List Ct},B9 l->B9 m->BO l->BO m->(∀ o,tot o l=tot o m)->l=m
 |[],[],_,_,_,_,_=>rfl
 |[],y::s,_,hm,_,zm,h=>by
  have:=h y.o
  have hs:=cc_ (Ye.1 hm).1;simp only[tot,a3_,if_true,hs] at this
  exact absurd (by omega) (zm y (by simp))
 |x::r,[],hl,_,zl,_,h=>by
  have:=h x.o
  have hr:=cc_ (Ye.1 hl).1;simp only[tot,a3_,if_true,hr] at this
  exact absurd (by omega) (zl x (by simp))
 |x::r,y::s,hl,hm,zl,zm,h=>by
  obtain⟨hf,hh⟩:=Ye.1 hl;obtain⟨hg,hj⟩:=Ye.1 hm;have hr:=cc_ hf;have hs:=cc_ hg
  cases hb:Bk x.o y.o
  ·cases he:Bk y.o x.o
   ·have e:x.o=y.o:=by
     cases e:BV x.o y.o
     ·have:=ct_ hb (fun e'=>by rw[aM_.2 e'] at e;cases e)
      rw[he] at this;cases this
     ·exact aM_.1 e
    have h1:=h x.o;rw[<-e] at hs;simp only[tot,<-e,a3_,if_true,hr,hs] at h1;have exy:x=y:=by cases x;cases y;simp at e h1 ⊢;exact⟨e,h1⟩
    subst exy
    have:r=s:=cS_ hh hj (fun c hc=>zl c (by simp[hc])) (fun c hc=>zm c (by simp[hc])) (fun o=>by have:=h o;simp only[tot] at this;omega)
    rw[this]
   ·have h1:=h y.o;have hz:tot y.o r=0:=cc_ (fun c hc=>b7_ he (hf c hc));have ha:=ge_ (dA_ he);simp only[tot,a3_,if_true,hs,ha,Zj,if_false,hz] at h1
    exact absurd (by omega) (zm y (by simp))
  ·have h1:=h x.o;have hz:tot x.o s=0:=cc_ (fun c hc=>b7_ hb (hg c hc));have ha:=ge_ (dA_ hb);simp only[tot,a3_,if_true,hr,ha,Zj,if_false,hz] at h1
   exact absurd (by omega) (zl x (by simp))
theorem eL_:∀ {more l:List Ct},B9 l->BO l->BO more->B9 (A7 l more)∧BO (A7 l more)∧∀ o,tot o (A7 l more)=tot o l+tot o more
 |[],l,hl,zl,_=>⟨hl,zl,fun o=>by simp[A7,tot]⟩
 |c::r,l,hl,zl,zm=>by
  obtain⟨h1,h2,h3⟩:=eL_ (more:=r) (gE_ c hl) (gF_ (zm c (by simp)) zl) (fun x hx=>zm x (by simp[hx]));refine⟨h1,h2,fun o=>?_⟩
  have:=h3 o
  rw[jX_] at this;simp only[A7,YE,tot] at this ⊢;omega
end
section
open Go Go.RowKit Go.BigFrame Tryz
theorem fc_ (x:Int)(w:World):
  Calls prog 195 #[.int .i64 x] w fun e w'=>e=.returned (.bool false)∧w'=w:=by
 have hx:(x != x)=false:=by simp
 go_enter func195,ntmps195;go_wp2;go_returns;go_light;exact⟨by simp,rfl⟩
theorem fd_ (x:ByteArray)(w:World):
  Calls prog 196 #[.string x] w fun e w'=>e=.returned (.bool false)∧w'=w:=by
 go_enter func196,ntmps196;go_wp2;go_returns;go_light;exact⟨by simp,rfl⟩
theorem dZ_ (x y:Int)(w:World):
  Calls prog 175 #[.int .i64 x,.int .i64 y] w fun e w'=>e=.returned (.int .i64 (Fq x y))∧w'=w:=by
 go_enter func175,ntmps175
 go_wp2_with fail
 refine (fc_ _ _).mono ?_;rintro e w1 ⟨rfl,rfl⟩
 go_wp2_with fail
 refine (fc_ _ _).mono ?_;rintro e w1 ⟨rfl,rfl⟩;go_wp2
 all_goals go_returns
 all_goals go_light
 all_goals refine⟨a4_ ?_,rfl⟩
 all_goals simp[Fq]
 all_goals omega
theorem d0_ (x y:ByteArray)(w:World):
  Calls prog 176 #[.string x,.string y] w fun e w'=>e=.returned (.int .i64 (HL x y))∧w'=w:=by
 go_enter func176,ntmps176
 go_wp2_with fail
 refine (fd_ _ _).mono ?_;rintro e w1 ⟨rfl,rfl⟩
 go_wp2_with fail
 refine (fd_ _ _).mono ?_;rintro e w1 ⟨rfl,rfl⟩;go_wp2
 all_goals go_returns
 all_goals go_light
 all_goals refine⟨a4_ ?_,rfl⟩
 all_goals simp_all [HL,bl]
theorem mx_ (x y z:Int)(b:Nat)(cap:Nat)(w:World)(h0:w.cell? ⟨b,0,none⟩=some (.int .i64 x))(h1:w.cell? ⟨b,1,none⟩=some (.int .i64 y))(h2:w.cell? ⟨b,2,none⟩=some (.int .i64 z)):
  Calls prog 174 #[.slice (some ⟨b,0,none⟩) 3 cap] w fun e w'=>e=.returned (.int .i64 (or3 x y z))∧w'=w:=by
 by_cases hx:x=0
 ·have ha:(x != 0)=false:=by simp[hx]
  by_cases hy:y=0
  ·have hb:(y != 0)=false:=by simp[hy]
   by_cases hz:z=0
   ·have hc:(z != 0)=false:=by simp[hz]
    have hf:Hid (or3 x y z=0):=by show _=_;simp[or3,hx,hy,hz]
    clear hx hy hz;go_enter func174,ntmps174
    go_wp2_with fail
    go_rounds 4
    go_returns;go_light;exact⟨a4_ hf.out.symm,rfl⟩
   ·have hc:(z != 0)=true:=by simp[hz]
    have hf:Hid (or3 x y z=z):=by show _=_;simp[or3,hx,hy]
    clear hx hy hz;go_enter func174,ntmps174
    go_wp2_with fail
    go_rounds 3
    go_returns;go_light;exact⟨a4_ hf.out.symm,rfl⟩
  ·have hb:(y != 0)=true:=by simp[hy]
   have hf:Hid (or3 x y z=y):=by show _=_;simp[or3,hx,hy]
   clear hx hy;go_enter func174,ntmps174
   go_wp2_with fail
   go_rounds 2
   go_returns;go_light;exact⟨a4_ hf.out.symm,rfl⟩
 ·have ha:(x != 0)=true:=by simp[hx]
  have hf:Hid (or3 x y z=x):=by show _=_;simp[or3,hx]
  clear hx;go_enter func174,ntmps174
  go_wp2_with fail
  go_rounds 1
  go_returns;go_light;exact⟨a4_ hf.out.symm,rfl⟩
theorem J7 (w:World)(x y z:Value)(t:TypeId):(w.alloc (.cells #[x,y,z] t)).drew.cell? ⟨w.heap.size,0,none⟩=some x∧(w.alloc (.cells #[x,y,z] t)).drew.cell? ⟨w.heap.size,1,none⟩=some y∧(w.alloc (.cells #[x,y,z] t)).drew.cell? ⟨w.heap.size,2,none⟩=some z:=
 ⟨Yv _ _ _ 0,Yv _ _ _ 1,Yv _ _ _ 2⟩
theorem gT_ (p q:Ow)(w:World):
  Calls prog 152 #[.agg #[.int .i64 p.a,.int .i64 p.v,.string p.f],.agg #[.int .i64 q.a,.int .i64 q.v,.string q.f]] w fun e w'=>e=.returned (.int .i64 (EJ p q))∧Below w.heap.size w w':=by
 have ha:Hid (EJ p q=or3 (Fq p.a q.a) (Fq p.v q.v) (HL p.f q.f)):=rfl;generalize EJ p q=R at *;obtain⟨a,v,f⟩:=p;obtain⟨b,u,g⟩:=q;simp only at ha;go_enter func152,ntmps152
 go_wp2_with fail
 have x0:((w.alloc (.cells #[.int .i64 a,.int .i64 v,.string f] 66)).alloc (.cells #[.int .i64 b,.int .i64 u,.string g] 66)).cell? ⟨w.heap.size,0,none⟩=some (.int .i64 a):=Al _ (by simp);have x1:((w.alloc (.cells #[.int .i64 a,.int .i64 v,.string f] 66)).alloc (.cells #[.int .i64 b,.int .i64 u,.string g] 66)).cell? ⟨w.heap.size,1,none⟩=some (.int .i64 v):=Al _ (by simp);have x2:((w.alloc (.cells #[.int .i64 a,.int .i64 v,.string f] 66)).alloc (.cells #[.int .i64 b,.int .i64 u,.string g] 66)).cell? ⟨w.heap.size,2,none⟩=some (.string f):=Al _ (by simp);have y0:((w.alloc (.cells #[.int .i64 a,.int .i64 v,.string f] 66)).alloc (.cells #[.int .i64 b,.int .i64 u,.string g] 66)).cell? ⟨w.heap.size+1,0,none⟩=some (.int .i64 b):=by simp
 have y1:((w.alloc (.cells #[.int .i64 a,.int .i64 v,.string f] 66)).alloc (.cells #[.int .i64 b,.int .i64 u,.string g] 66)).cell? ⟨w.heap.size+1,1,none⟩=some (.int .i64 u):=by simp
 have y2:((w.alloc (.cells #[.int .i64 a,.int .i64 v,.string f] 66)).alloc (.cells #[.int .i64 b,.int .i64 u,.string g] 66)).cell? ⟨w.heap.size+1,2,none⟩=some (.string g):=by simp
 have hb:Below w.heap.size w ((w.alloc (.cells #[.int .i64 a,.int .i64 v,.string f] 66)).alloc (.cells #[.int .i64 b,.int .i64 u,.string g] 66)):=by go_grown
 generalize (w.alloc (.cells #[.int .i64 a,.int .i64 v,.string f] 66)).alloc (.cells #[.int .i64 b,.int .i64 u,.string g] 66)=W0 at *
 go_region_held3 (fun u'=>u'.cell? ⟨w.heap.size,0,none⟩=some (.int .i64 a)∧u'.cell? ⟨w.heap.size,1,none⟩=some (.int .i64 v)∧u'.cell? ⟨w.heap.size,2,none⟩=some (.string f)∧u'.cell? ⟨w.heap.size+1,0,none⟩=some (.int .i64 b)∧u'.cell? ⟨w.heap.size+1,1,none⟩=some (.int .i64 u)∧u'.cell? ⟨w.heap.size+1,2,none⟩=some (.string g)) (go_keep)
  (first | (go_at_call 175;refine (dZ_ _ _ _).mono ?_;rintro e w2 ⟨rfl,rfl⟩) | (go_at_call 176;refine (d0_ _ _ _).mono ?_;rintro e w2 ⟨rfl,rfl⟩) | (go_at_call 174;refine (mx_ (Fq a b) (Fq v u) (HL f g) W0.heap.size 3 _ (J7 W0 _ _ _ _).1 (J7 W0 _ _ _ _).2.1 (J7 W0 _ _ _ _).2.2).mono ?_;rintro e w2 ⟨rfl,rfl⟩))
 go_wp2;go_returns;go_light;exact⟨a4_ ha.out.symm,(hb.alloc hb.size _).drew⟩
theorem gU_ (p q:Ow)(w:World):
  Calls prog 149 #[.agg #[.int .i64 p.a,.int .i64 p.v,.string p.f],.agg #[.int .i64 q.a,.int .i64 q.v,.string q.f]] w fun e w'=>e=.returned (.bool (Bk p q))∧Below w.heap.size w w':=by
 have ha:Hid (Bk p q=decide (EJ p q<0)):=(i6_ p q).symm;obtain⟨a,v,f⟩:=p;obtain⟨b,u,g⟩:=q;go_enter func149,ntmps149
 go_wp2_with fail
 refine (gT_ ⟨a,v,f⟩ ⟨b,u,g⟩ _).mono ?_;rintro e w1 ⟨rfl,hb⟩;have hc:Below w.heap.size w w1:=Aa (by go_grown) hb;go_wp2;go_returns;go_light;exact⟨ac_ ha.out.symm,hc⟩
end
section
open Go Go.RowKit Go.BigFrame Tryz
variable{size:Int}{B k:Nat}{a:Option Addr}{w:World}
def MD:Option Addr->Option Nat
 |none=>none
 |some ad=>some ad.block
theorem jc_ {w1 w':World}{row:Option Nat}(hb:Below w.heap.size w w1)(hg:w1.grownBy w' row)(hn:∀ k,row=some k->w.heap.size<=k):Below w.heap.size w w':=hb.grown hg hb.size hn
theorem pl_ (h:∀ ad,a=some ad->B<=ad.block):∀ k,MD a=some k->B<=k:=by
 intro k hk
 cases a with
 |none=>cases hk
 |some ad=>have:=h ad rfl;simp[MD] at hk;omega
theorem bT_ (d:ByteArray)(w:World)(hd:d.size<=9223372036854775807):
  Calls prog 113 #[.string d] w fun e w'=>e=.returned (.bool (nameB d))∧w'=w:=by
 by_cases h1:1<=d.size∧d.size<=8
 ·have ha:Hid (nameB d=(d.data.toList.drop 0).all Gn):=by show _=_;simp[nameB,h1]
  obtain⟨h1,he⟩:=h1;go_enter func113,ntmps113
  go_wp2_with fail
  go_loop [14] (fun ix=>∃ (k:Nat),k<=d.size∧ix=.int .i64 k∧Hid (nameB d=(d.data.toList.drop k).all Gn)) (fun ix=>d.size-(intOf ix).toNat)
  case atStart=>exact⟨0,Zg _,rfl,ha⟩
  case round=>
   obtain⟨k,hk,rfl,hI⟩:=hrel;by_cases hlt:k<d.size
   ·have hs:Hid (d.data.toList.drop k=d[k]::d.data.toList.drop (k+1)):=fH_ d k hlt
    cases hc:Gn d[k]
    ·have hb:(d[k].toNat:Int)<97∨122<(d[k].toNat:Int):=by simp[Gn] at hc;omega
     go_wp2
     all_goals go_returns
     all_goals go_light
     all_goals (refine⟨ac_ ?_,rfl⟩;rw[hI.out,hs.out];simp[hc])
    ·have hb:97<=(d[k].toNat:Int)∧(d[k].toNat:Int)<=122:=by simp[Gn] at hc;omega
     obtain⟨hf,hg⟩:=hb;go_wp2;go_round
     case rel=>exact⟨k+1,by omega,by go_num,by show _=_;rw[hI.out,hs.out];simp[hc]⟩
     case measure=>simp[intOf];omega
   ·obtain rfl:k=d.size:=by omega
    go_wp2;go_returns;go_light;refine⟨ac_ ?_,rfl⟩;rw[hI.out,Ze (by simp)];rfl
 ·have ha:Hid (nameB d=false):=by show _=_;simp[nameB];omega
  go_enter func113,ntmps113;go_wp2
  all_goals go_returns
  all_goals go_light
  all_goals exact⟨ac_ ha.out.symm,rfl⟩
end
section
open Go Go.RowKit Go.BigFrame Tryz
variable{l:List Ct}{t:TypeId}{u x y z:Value}{w w1:World}
theorem bp_ (p:Ow)(w:World)(hd:p.f.size<=9223372036854775807):
  Calls prog 148 #[.agg #[.int .i64 p.a,.int .i64 p.v,.string p.f]] w fun e w'=>e=.returned (.bool (AN p))∧Below w.heap.size w w':=by
 by_cases h:1<=p.a∧p.a<=400∧1<=p.v∧p.v<=1000000000
 ·have ha:Hid (AN p=nameB p.f):=by show _=_;simp[AN,h]
  generalize AN p=R at *;obtain⟨a,v,f⟩:=p;simp only at *;obtain⟨h1,h2,h3,h4⟩:=h;go_enter func148,ntmps148
  go_wp2_with fail
  refine (bT_ f _ hd).mono ?_;rintro e w1 ⟨rfl,rfl⟩;go_wp2;go_returns;go_light;exact⟨ac_ ha.out.symm,by go_grown⟩
 ·have ha:Hid (AN p=false):=by show _=_;simp[AN];omega
  generalize AN p=R at *;obtain⟨a,v,f⟩:=p;simp only at *;go_enter func148,ntmps148;go_wp2
  all_goals go_returns
  all_goals go_light
  all_goals exact⟨ac_ ha.out.symm,by go_grown⟩
theorem Iz (hb:Below (w.alloc (.cells #[x,y,z,u] t)).heap.size (w.alloc (.cells #[x,y,z,u] t)) w1):
  w1.cell? ⟨w.heap.size,0,none⟩=some x∧w1.cell? ⟨w.heap.size,1,none⟩=some y∧w1.cell? ⟨w.heap.size,2,none⟩=some z∧w1.cell? ⟨w.heap.size,3,none⟩=some u∧Below w.heap.size w w1∧w.heap.size<w1.heap.size:=
 ⟨Ab hb (Yv _ _ _ 0),Ab hb (Yv _ _ _ 1),Ab hb (Yv _ _ _ 2),Ab hb (Yv _ _ _ 3),
  ((Yg _ _).alloc (Zd _) _).trans (hb.mono (by simp)),by have:=hb.size;simp at this;omega⟩
theorem gG_ (a:Option Addr)(n cap:Nat)(l:List Ct)(w:World)(h:A8 w a n l)(hstr:Co l)(hn:n<=4194304):
  Calls prog 116 #[.slice a n cap] w fun e w'=>e=.returned (.bool (AR l))∧Below w.heap.size w w':=by
 have hc:Hid (l.length=n):=h.len;by_cases h2:n<=200
 ·have hb:Hid (AR l=(l.drop 0).all Ce):=by show _=_;simp[AR,hc.out,h2]
  go_enter func116,ntmps116
  go_wp2_with fail
  go_loopw [10] (fun ix wr=>∃ (k:Nat),k<=n∧ix=.int .i64 k∧Hid (AR l=(l.drop k).all Ce)∧Below w.heap.size w wr) (fun ix _=>n-(intOf ix).toNat)
  case atStart=>exact⟨0,Zg _,rfl,hb,Yg _ _⟩
  case round=>
   obtain⟨k,hk,rfl,hI,hB⟩:=hrel;by_cases hlt:k<n
   ·obtain⟨b,o,p,rfl,hp,c0,c1,c2,c3⟩:=aN_ (h.below hB) hlt;have hd:Hid (l.drop k=p::l.drop (k+1)):=al_ hp;have hg:=hstr.at hp;clear hp;have hr:=hB.size
    cases hf:AN p.o
    ·go_wp2_with fail
     refine (bp_ p.o _ hg).mono ?_;rintro e w1 ⟨rfl,he⟩;obtain⟨x0,x1,x2,x3,ha,hj⟩:=Iz he;rw[hf];go_wp2;go_returns;go_light;refine⟨ac_ ?_,Aa hB ha⟩;rw[hI.out,hd.out];simp[Ce,hf]
    ·by_cases hok:-1000<=p.n∧p.n<=1000∧p.n≠0
     ·obtain⟨hl,hm,hh⟩:=hok;have hz:(p.n==0)=false:=ZV.2 hh
      go_wp2_with fail
      refine (bp_ p.o _ hg).mono ?_;rintro e w1 ⟨rfl,he⟩;obtain⟨x0,x1,x2,x3,ha,hj⟩:=Iz he;rw[hf];go_wp2;go_roundw
      case rel=>exact⟨k+1,by omega,by go_num,by show _=_;rw[hI.out,hd.out];simp[Ce,hf,hl,hm,hh],Aa hB ha⟩
      case measure=>simp[intOf];omega
     ·have hz:Hid (Ce p=false):=by
       show _=_;by_cases hz:p.n=0
       ·simp[Ce,hz]
       ·simp[Ce,hz];omega
      go_wp2_with fail
      refine (bp_ p.o _ hg).mono ?_;rintro e w1 ⟨rfl,he⟩;obtain⟨x0,x1,x2,x3,ha,hj⟩:=Iz he;rw[hf]
      cases ho:(p.n==0)
      all_goals (have hq:=ho;simp at hq)
      all_goals go_wp2
      all_goals go_returns
      all_goals go_light
      all_goals refine⟨ac_ ?_,Aa hB ha⟩
      all_goals (rw[hI.out,hd.out];simp[hz.out])
   ·obtain rfl:k=n:=by omega
    go_wp2;go_returns;go_light;refine⟨ac_ ?_,hB⟩;rw[hI.out,Ze (Zm hc.out)];rfl
 ·have hb:Hid (AR l=false):=by show _=_;have:=hc.out;simp[AR];omega
  go_enter func116,ntmps116;go_wp2;go_returns;go_light;exact⟨ac_ hb.out.symm,Yg _ _⟩
theorem cK_ (a:Option Addr)(n cap:Nat)(l:List Ct)(w:World)(h:A8 w a n l)(hstr:Co l)(hn:n<=4194304):
  Calls prog 115 #[.slice a n cap] w fun e w'=>e=.returned (.bool (AI l))∧Below w.heap.size w w':=by
 have he:Hid (l.length=n):=h.len;by_cases h2:n<=200
 ·have hc:Hid (AI l=rgo (aheadC l 0) (l.drop 0)):=by show _=_;simp[AI,he.out,h2,aheadC]
  go_enter func115,ntmps115
  go_wp2_with fail
  go_loopw [10] (fun ix wr=>∃ (k:Nat),k<=n∧ix=.int .i64 k∧Hid (AI l=rgo (aheadC l k) (l.drop k))∧Below w.heap.size w wr) (fun ix _=>n-(intOf ix).toNat)
  case atStart=>exact⟨0,Zg _,rfl,hc,Yg _ _⟩
  case round=>
   obtain⟨k,hk,rfl,hI,hB⟩:=hrel;by_cases hlt:k<n
   ·obtain⟨b,o,p,rfl,hp,c0,c1,c2,c3⟩:=aN_ (h.below hB) hlt;have hd:Hid (l.drop k=p::l.drop (k+1)):=al_ hp;have hq:Hid (l[k]?=some p):=hp;have hg:=hstr.at hp;clear hp;have hE:=hB.size
    cases hf:AN p.o
    ·go_wp2_with fail
     refine (bp_ p.o _ hg).mono ?_;rintro e w1 ⟨rfl,hb⟩;obtain⟨x0,x1,x2,x3,ha,hl⟩:=Iz hb;rw[hf];go_wp2;go_returns;go_light;refine⟨ac_ ?_,Aa hB ha⟩;rw[hI.out,hd.out];cases aheadC l k<;>simp[rgo,DU,hf]
    ·by_cases hok:1<=p.n∧p.n<=1000
     ·obtain⟨hu,hv⟩:=hok;have ht:Hid (DU p=true):=by show _=_;simp[DU,hf,hu,hv]
      rcases k with _ | j
      ·simp only[Nat.zero_mul,Nat.add_zero] at c0 c1 c2 c3
       go_wp2_with fail
       refine (bp_ p.o _ hg).mono ?_;rintro e w1 ⟨rfl,hb⟩;obtain⟨x0,x1,x2,x3,ha,hl⟩:=Iz hb;rw[hf]
       go_wp2_with fail
       go_quiet (fail)
       go_wp2;go_roundw
       case rel=>exact⟨1,by omega,by go_num,by show _=_;rw[hI.out,hd.out,gH_,bU_,hq.out];simp[rgo,ht.out],Aa hB (Aa ha (Bi _ _))⟩
       case measure=>simp[intOf];omega
      ·obtain⟨b',o',q,hr,hs,d0,d1,d2,d3⟩:=aN_ (h.below hB) (k:=j) (by omega);obtain⟨rfl,rfl⟩:b=b'∧o=o':=by simpa using hr
       have ho:Hid (aheadC l (j+1)=some q):=by show _=_;rw[bU_];exact hs
       clear hs hr
       cases hh:Bk q.o p.o
       all_goals
        go_wp2_with fail
        refine (bp_ p.o _ hg).mono ?_;rintro e w1 ⟨rfl,hb⟩;obtain⟨x0,x1,x2,x3,ha,hl⟩:=Iz hb;rw[hf];replace d0:=Ab ha d0;replace d1:=Ab ha d1;replace d2:=Ab ha d2;have hj:(0:Int)<(j:Int)+1:=by omega
        have hw:(j:Int)<n:=by omega
        have hy:(0:Int)<=j:=by omega
        have hC:IntKind.i64.wrap ((j:Int)+1-1)=(j:Int):=by rw[Ys];omega
        have hD:IntKind.i64.wrap (j:Int)=(j:Int):=by rw[Ys];omega
        clear c0 c1 c2 c3
        go_wp2_with fail
        have g0:=Ac x0;have g1:=Ac x1;have g2:=Ac x2;have g3:=Ac d0;have g4:=Ac d1;have g5:=Ac d2;have hA:=aA_ w1;refine ab_ (by kernel_rfl) (by kernel_rfl) ?_
        repeat (go_big_quiet_step (first | (go_at_call 149;have qq:=gU_ q.o p.o;rw[hh] at qq;exact an_ (qq _))))
        refine wpQuiet_nil ?_;intro w2 hx;have hm:=ah_ hx;clear hx;go_wp2
       ·go_returns;go_light;refine⟨ac_ ?_,Aa hB (Aa ha hm)⟩;rw[hI.out,hd.out,ho.out];simp[rgo,hh]
       ·go_roundw
        case rel=>exact⟨j+2,by omega,by go_num,by show _=_;rw[hI.out,hd.out,ho.out,bU_,hq.out];simp[rgo,hh,ht.out],Aa hB (Aa ha hm)⟩
        case measure=>simp[intOf];omega
     ·have hz:Hid (DU p=false):=by show _=_;simp[DU];omega
      go_wp2_with fail
      refine (bp_ p.o _ hg).mono ?_;rintro e w1 ⟨rfl,hb⟩;obtain⟨x0,x1,x2,x3,ha,hl⟩:=Iz hb;rw[hf];go_wp2
      all_goals go_returns
      all_goals go_light
      all_goals refine⟨ac_ ?_,Aa hB ha⟩
      all_goals (rw[hI.out,hd.out];cases aheadC l k<;>simp[rgo,hz.out])
   ·obtain rfl:k=n:=by omega
    go_wp2;go_returns;go_light;refine⟨ac_ ?_,hB⟩;rw[hI.out,Ze (Zm he.out)];cases aheadC l k<;>rfl
 ·have hc:Hid (AI l=false):=by show _=_;have:=he.out;simp[AI];omega
  go_enter func115,ntmps115;go_wp2;go_returns;go_light;exact⟨ac_ hc.out.symm,Yg _ _⟩
end
end Go.Proofs.YtkiceokhlceciaaGreatDoor
