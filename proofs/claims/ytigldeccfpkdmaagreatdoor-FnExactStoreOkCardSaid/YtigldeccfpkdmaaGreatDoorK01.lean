/- Numbers in decimal, read: plain. A number read by the program, plain. Words and lines, cut and joined: plain. The extents: dataOk and SpaceOk of the program, l1Plain and SpaceOk of the model. -/
import Derived.Lib.Atoi
import Derived.Test.YtigldeccfpkdmaaGreatDoorK00
import Derived.Lib.AtoiTie
import Derived.Lib.ParseIntBTie
import Derived.Lib.Strings
import Derived.Test.YtigldeccfpkdmaaGreatDoorProg
namespace Go.Proofs.YtigldeccfpkdmaaGreatDoor
open Go
set_option maxHeartbeats 20000000
set_option maxRecDepth 100000
abbrev By:=List UInt8
def bA (l:By):ByteArray:=⟨l.toArray⟩
theorem bB_ (b:ByteArray):bA b.data.toList=b:=by cases b;simp [bA]
theorem af_ (l:By):(bA l).data.toList=l:=by simp [bA]
theorem cd_:∀ (a b:By) (k:Nat),Lib.decFrom k (a++b)=(Lib.decFrom k a).bind fun m=>Lib.decFrom m b
 |[],b,k=>rfl
 |x::a,b,k=>by
  simp only [List.cons_append,Lib.decFrom]
  cases Lib.digitVal x with
  |none=>rfl
  |some d=>exact cd_ a b _
theorem iG_ {d:Nat} (h:d<10):Lib.digitVal (UInt8.ofNat (48+d))=some d:=by
 have e:(UInt8.ofNat (48+d)).toNat=48+d:=by simp;omega
 unfold Lib.digitVal
 rw [e,if_pos (by omega)]
 simp
theorem gX_ {b:UInt8} {d:Nat} (h:Lib.digitVal b=some d):d<10∧b=UInt8.ofNat (48+d):=by
 unfold Lib.digitVal at h
 split at h
 ·next hb=>
  have h:=Option.some.inj h
  refine ⟨by omega,?_⟩
  apply UInt8.toNat_inj.1
  simp
  omega
 ·cases h
theorem bF_ (n:Nat):Lib.decFrom 0 (Lib.decDigits n)=some n:=by
 induction n using Nat.strongRecOn with
 |_ n ih=>
  rw [Lib.decDigits]
  split
  ·next h=>simp only [Lib.decFrom,iG_ h];simp
  ·next h=>
   rw [cd_,ih (n / 10) (by omega)]
   simp only [Option.bind_some,Lib.decFrom,iG_ (show n % 10<10 by omega)]
   congr 1
   omega
theorem fv_ (n:Nat):Lib.decDigits n≠[]:=by
 rw [Lib.decDigits]
 split<;>simp
theorem iH_ {n:Nat} (h:(Lib.decDigits n).head?=some 48):n=0:=by
 induction n using Nat.strongRecOn with
 |_ n ih=>
  rw [Lib.decDigits] at h
  split at h
  ·next hn=>
   simp at h
   have:=congrArg UInt8.toNat h
   simp at this
   omega
  ·next hn=>
   obtain ⟨x,l,hx⟩:∃ x l,Lib.decDigits (n / 10)=x::l:=by
    cases hc:Lib.decDigits (n / 10) with
    |nil=>exact absurd hc (fv_ _)
    |cons x l=>exact ⟨x,l,rfl⟩
   have:=ih (n / 10) (by omega) (by rw [hx] at h ⊢;simpa using h)
   omega
theorem gY_:∀ (k:Nat) (t:By),t.length=k->t≠[]->(t.head?≠some 48∨t.length=1)->∀ n,Lib.decFrom 0 t=some n->Lib.decDigits n=t:=by
 intro k
 induction k with
 |zero=>intro t h1 h2;exact absurd (List.eq_nil_of_length_eq_zero h1) h2
 |succ k ih=>
  intro t h1 h2 h3 n h4
  obtain ⟨a,b,rfl⟩:∃ a b,t=a++[b]:=⟨t.dropLast,t.getLast h2,(List.dropLast_concat_getLast h2).symm⟩
  rw [cd_] at h4
  cases ha:Lib.decFrom 0 a with
  |none=>rw [ha] at h4;cases h4
  |some m=>
   rw [ha] at h4
   simp only [Option.bind_some,Lib.decFrom] at h4
   cases hd:Lib.digitVal b with
   |none=>rw [hd] at h4;cases h4
   |some d=>
    rw [hd] at h4
    simp only [Option.some.injEq] at h4
    obtain ⟨hd1,rfl⟩:=gX_ hd
    cases a with
    |nil=>
     simp [Lib.decFrom] at ha
     subst ha
     rw [Lib.decDigits,dif_pos (by omega)]
     simp at h4
     simp [<-h4]
    |cons x r=>
     have h5:(x::r).head?≠some 48:=by
      rcases h3 with h3 | h3
      ·simpa using h3
      ·simp at h3
     have h6:=ih (x::r) (by simpa using h1) (by simp) (.inl h5) m ha
     have hm:1<=m:=by
      rcases Nat.eq_zero_or_pos m with rfl | h
      ·rw [show Lib.decDigits 0=[48] by rw [Lib.decDigits];simp] at h6
       rw [<-h6] at h5
       simp at h5
      ·exact h
     rw [Lib.decDigits,dif_neg (by omega),show n / 10=m by omega,show n % 10=d by omega,h6]
/-- The number that a text of at most ten digits spells, just as it is written. -/
def numP (s:By):Option Int:=
 match s with
 |45::t=>if t.length<1∨10<t.length∨t.head?=some 48 then none else (Lib.decFrom 0 t).map fun (n:Nat)=>-(n:Int)
 |t=>if t.length<1∨10<t.length∨(t.head?=some 48∧1<t.length) then none else (Lib.decFrom 0 t).map fun (n:Nat)=>(n:Int)
def Ten (n:Int):Prop:=-10000000000<n∧n<10000000000
theorem hH_ (m:Nat):∀ k,k<10 ^ (m+1)->(Lib.decDigits k).length<=m+1:=by
 induction m with
 |zero=>intro k h;rw [Lib.decDigits,dif_pos (by omega)];simp
 |succ m ih=>
  intro k h
  rw [Lib.decDigits]
  split
  ·simp
  ·have:=ih (k / 10) (by rw [Nat.pow_succ] at h;omega)
   simp;omega
theorem fw_ (n:Nat):∃ d r,Lib.decDigits n=UInt8.ofNat (48+d)::r∧d<10:=by
 induction n using Nat.strongRecOn with
 |_ n ih=>
  rw [Lib.decDigits]
  split
  ·next h=>exact ⟨n,[],rfl,h⟩
  ·next h=>
   obtain ⟨d,r,e,hd⟩:=ih (n / 10) (by omega)
   exact ⟨d,r++[UInt8.ofNat (48+n % 10)],by rw [e];rfl,hd⟩
theorem mZ_ {d:Nat} (h:d<10):UInt8.ofNat (48+d)≠45:=fun e=>by
 have:=congrArg UInt8.toNat e
 simp at this
 omega
theorem fx_ {t:By} (h:t.head?≠some 45):numP t=if t.length<1∨10<t.length∨(t.head?=some 48∧1<t.length) then none else (Lib.decFrom 0 t).map fun (n:Nat)=>(n:Int):=by
 unfold numP
 split
 ·simp at h
 ·rfl
theorem aF_ {n:Int} (h:Ten n):numP (Lib.itoa n)=some n:=by
 obtain ⟨h1,h2⟩:=h
 unfold Lib.itoa
 split
 ·next hn=>
  obtain ⟨k,rfl⟩:∃ k:Nat,n=-(k:Int):=⟨n.natAbs,by omega⟩
  have e:(-(k:Int)).natAbs=k:=by omega
  rw [e]
  unfold numP
  simp only
  have l1:=hH_ 9 k (by omega)
  have l2:=List.length_pos_iff.2 (fv_ k)
  rw [if_neg,bF_]
  ·rfl
  ·rintro (h | h | h)
   ·omega
   ·omega
   ·have:=iH_ h;omega
 ·next hn=>
  obtain ⟨k,rfl⟩:∃ k:Nat,n=(k:Int):=⟨n.toNat,by omega⟩
  have e:(k:Int).toNat=k:=by omega
  rw [e]
  have l1:=hH_ 9 k (by omega)
  have l2:=List.length_pos_iff.2 (fv_ k)
  rw [fx_,if_neg,bF_]
  ·rfl
  ·rintro (h | h | ⟨h,h'⟩)
   ·omega
   ·omega
   ·have:=iH_ h
    subst this
    rw [show Lib.decDigits 0=[48] by rw [Lib.decDigits];simp] at h'
    simp at h'
  ·obtain ⟨d,r,e,hd⟩:=fw_ k
   rw [e]
   simp only [List.head?_cons,ne_eq,Option.some.injEq]
   exact mZ_ hd
theorem cG_:∀ (t:By) (k n:Nat),Lib.decFrom k t=some n->n<(k+1)*10 ^ t.length
 |[],k,n,h=>by simp [Lib.decFrom] at h;simp;omega
 |x::t,k,n,h=>by
  simp only [Lib.decFrom] at h
  cases hx:Lib.digitVal x with
  |none=>rw [hx] at h;cases h
  |some d=>
   rw [hx] at h
   have h1:=cG_ t _ n h
   have h2:=(gX_ hx).1
   have h3:(k*10+d+1)*10 ^ t.length<=((k+1)*10)*10 ^ t.length:=Nat.mul_le_mul_right _ (by omega)
   simp only [List.length_cons,Nat.pow_succ]
   rw [Nat.mul_assoc,Nat.mul_comm 10] at h3
   omega
theorem aG_ {s:By} {n:Int} (h:numP s=some n):s=Lib.itoa n∧Ten n:=by
 have hten:∀ {t:By} {k:Nat},¬ 10<t.length->Lib.decFrom 0 t=some k->k<10000000000:=fun {t k} h1 h2=>by
  have:=cG_ t 0 k h2
  have h3:10 ^ t.length<=10 ^ 10:=Nat.pow_le_pow_right (by omega) (by omega)
  omega
 unfold numP at h
 split at h
 ·next t=>
  split at h
  ·cases h
  ·next hc=>
   rw [not_or,not_or] at hc
   obtain ⟨c1,c2,c3⟩:=hc
   cases hd:Lib.decFrom 0 t with
   |none=>rw [hd] at h;cases h
   |some k=>
    rw [hd] at h
    obtain rfl:-(k:Int)=n:=Option.some.inj h
    have e:=gY_ _ t rfl (fun e=>by subst e;simp at c1) (.inl c3) k hd
    have hk:0<k:=by
     rcases Nat.eq_zero_or_pos k with rfl | hk
     ·rw [show Lib.decDigits 0=[48] by rw [Lib.decDigits];simp] at e
      rw [<-e] at c3
      simp at c3
     ·exact hk
    refine ⟨?_,by have:=hten c2 hd;exact ⟨by omega,by omega⟩⟩
    unfold Lib.itoa
    rw [if_pos (by omega),show (-(k:Int)).natAbs=k by omega,e]
 ·next t hs=>
  split at h
  ·cases h
  ·next hc=>
   rw [not_or,not_or] at hc
   obtain ⟨c1,c2,c3⟩:=hc
   cases hd:Lib.decFrom 0 s with
   |none=>rw [hd] at h;cases h
   |some k=>
    rw [hd] at h
    obtain rfl:(k:Int)=n:=Option.some.inj h
    have e:=gY_ _ s rfl (fun e=>by subst e;simp at c1) (by
     by_cases h4:s.head?=some 48
     ·exact .inr (by have h6:¬ 1<s.length:=fun h5=>c3 ⟨h4,h5⟩
                     omega)
     ·exact .inl h4) k hd
    refine ⟨?_,by have:=hten c2 hd;exact ⟨by omega,by omega⟩⟩
    unfold Lib.itoa
    rw [if_neg (by omega),show (k:Int).toNat=k by omega,e]
theorem gZ_ {t:By} (h:t≠[]):Lib.decNat t=Lib.decFrom 0 t:=by
 unfold Lib.decNat
 cases t with
 |nil=>exact absurd rfl h
 |cons x l=>rfl
theorem g0_ (n:Int):Lib.atoi (Lib.itoa n)=some n:=by
 unfold Lib.itoa
 split
 ·next hn=>
  obtain ⟨k,rfl⟩:∃ k:Nat,n=-(k:Int):=⟨n.natAbs,by omega⟩
  rw [show (-(k:Int)).natAbs=k by omega]
  unfold Lib.atoi
  simp only [beq_self_eq_true,if_true]
  rw [gZ_ (fv_ k),bF_]
  rfl
 ·next hn=>
  obtain ⟨k,rfl⟩:∃ k:Nat,n=(k:Int):=⟨n.toNat,by omega⟩
  rw [show (k:Int).toNat=k by omega]
  obtain ⟨d,r,e,hd⟩:=fw_ k
  have h2:=gZ_ (fv_ k)
  rw [bF_,e] at h2
  rw [e]
  unfold Lib.atoi
  have h43:(UInt8.ofNat (48+d)==43)=false:=by
   rw [beq_eq_false_iff_ne]
   intro e
   have:=congrArg UInt8.toNat e
   simp at this
   omega
  have h45:(UInt8.ofNat (48+d)==45)=false:=by
   rw [beq_eq_false_iff_ne]
   exact mZ_ hd
  simp only [h43,h45]
  rw [h2]
  rfl
/-- Without a sign. -/
def trimN (s:By):By:=Lib.trimPrefix s [45]
theorem l4_ (t:By):trimN (45::t)=t:=by simp [trimN,Lib.trimPrefix,Lib.hasPrefix]
theorem l5_ {t:By} (h:t.head?≠some 45):trimN t=t:=by
 unfold trimN Lib.trimPrefix Lib.hasPrefix
 cases t with
 |nil=>rfl
 |cons x l=>
  have:¬ x=45:=fun e=>h (by simp [e])
  rw [if_neg]
  simp
  exact fun e=>this e.symm
theorem g1_ (n:Int):trimN (Lib.itoa n)=Lib.decDigits n.natAbs:=by
 unfold Lib.itoa
 split
 ·exact l4_ _
 ·next hn=>
  obtain ⟨k,rfl⟩:∃ k:Nat,n=(k:Int):=⟨n.toNat,by omega⟩
  rw [show (k:Int).toNat=k by omega,show (k:Int).natAbs=k by omega]
  obtain ⟨d,r,e,hd⟩:=fw_ k
  exact l5_ (by rw [e];simp only [List.head?_cons,ne_eq,Option.some.injEq];exact mZ_ hd)
theorem o4_ {n:Int} (h:(trimN (Lib.itoa n)).length<=10):Ten n:=by
 rw [g1_] at h
 have h1:=cG_ _ 0 _ (bF_ n.natAbs)
 have h2:10 ^ (Lib.decDigits n.natAbs).length<=10 ^ 10:=Nat.pow_le_pow_right (by omega) h
 have h3:(10:Nat) ^ 10=10000000000:=by decide
 unfold Ten
 omega
theorem oh_ {n:Int} (h:Ten n):(trimN (Lib.itoa n)).length<=10:=by
 rw [g1_]
 obtain ⟨h1,h2⟩:=h
 exact hH_ 9 _ (by omega)
theorem g2_ {s:By} (h:10<(trimN s).length):numP s=none:=by
 cases hc:numP s with
 |none=>rfl
 |some n=>
  obtain ⟨rfl,h2⟩:=aG_ hc
  have:=oh_ h2
  omega
theorem iI_ {s:By} (h:Lib.atoi s=none):numP s=none:=by
 cases hc:numP s with
 |none=>rfl
 |some n=>
  obtain ⟨rfl,h2⟩:=aG_ hc
  rw [g0_] at h
  cases h
theorem fy_ {s:By} {n:Int} (h:Lib.atoi s=some n) (h2:Lib.itoa n≠s):numP s=none:=by
 cases hc:numP s with
 |none=>rfl
 |some m=>
  obtain ⟨rfl,_⟩:=aG_ hc
  rw [g0_] at h
  obtain rfl:=Option.some.inj h
  exact absurd rfl h2
theorem g3_ {s:By} {n:Int} (h1:(trimN s).length<=10) (h2:Lib.itoa n=s):numP s=some n:=by
 subst h2
 exact aF_ (o4_ h1)
theorem m0_ (s:By):s.length<=(trimN s).length+1:=by
 unfold trimN Lib.trimPrefix
 split
 ·simp;omega
 ·simp
theorem eQ_ {s:By} (h:(trimN s).length<=10):Lib.parseIntB 64 s=Lib.NumEnd.ofOption (Lib.atoi s):=by
 have:=m0_ s
 rw [Lib.parseIntB_64,Lib.atoiAll_short s (by omega)]
/-- What stands ahead of the first c, and behind it. -/
def cutB (c:UInt8):By->Option (By×By)
 |[]=>none
 |x::l=>if x=c then some ([],l) else (cutB c l).map fun q=>(x::q.1,q.2)
theorem bd_ {c:UInt8}:∀ {a:By} (b:By),c∉a->cutB c (a++c::b)=some (a,b)
 |[],b,_=>by simp [cutB]
 |x::a,b,h=>by
  have h1:¬ x=c:=fun e=>h (by simp [e])
  have h2:c∉a:=fun e=>h (by simp [e])
  simp [cutB,h1,bd_ b h2]
theorem em_ {c:UInt8}:∀ {a:By},c∉a->cutB c a=none
 |[],_=>rfl
 |x::a,h=>by
  have h1:¬ x=c:=fun e=>h (by simp [e])
  have h2:c∉a:=fun e=>h (by simp [e])
  simp [cutB,h1,em_ h2]
theorem ay_ {c:UInt8}:∀ {l a b:By},cutB c l=some (a,b)->l=a++c::b∧c∉a
 |[],a,b,h=>by cases h
 |x::l,a,b,h=>by
  unfold cutB at h
  split at h
  ·next hx=>obtain ⟨rfl,rfl⟩:=Prod.mk.inj (Option.some.inj h);simp [hx]
  ·next hx=>
   cases hc:cutB c l with
   |none=>rw [hc] at h;cases h
   |some q=>
    rw [hc] at h
    obtain ⟨rfl,rfl⟩:=Prod.mk.inj (Option.some.inj h)
    obtain ⟨h1,h2⟩:=ay_ (a:=q.1) (b:=q.2) hc
    refine ⟨by rw [h1];rfl,?_⟩
    intro hm
    rcases List.mem_cons.1 hm with e | e
    ·exact hx e.symm
    ·exact h2 e
/-- Cut at the first k blanks. -/
def wdsN:Nat->By->List By
 |0,l=>[l]
 |k+1,l=>match cutB 32 l with
  |none=>[l]
  |some q=>q.1::wdsN k q.2
/-- Words with a blank between two. -/
def joW:List By->By
 |[]=>[]
 |[a]=>a
 |a::b::l=>a++32::joW (b::l)
theorem dQ_ (k:Nat) (l:By):wdsN k l≠[]:=by
 cases k with
 |zero=>simp [wdsN]
 |succ k=>unfold wdsN;split<;>simp
theorem k6_:∀ (k:Nat) (l:By),joW (wdsN k l)=l
 |0,l=>rfl
 |k+1,l=>by
  unfold wdsN
  split
  ·rfl
  ·next q hq=>
   have h1:=k6_ k q.2
   obtain ⟨h2,_⟩:=ay_ (a:=q.1) (b:=q.2) hq
   cases hc:wdsN k q.2 with
   |nil=>exact absurd hc (dQ_ _ _)
   |cons x r=>rw [hc] at h1;rw [joW,h1,<-h2]
theorem fz_:∀ (ws:List By) (x:By),(∀ w∈ws,(32:UInt8)∉w)->wdsN ws.length (joW (ws++[x]))=ws++[x]
 |[],x,_=>rfl
 |w::ws,x,h=>by
  have ih:=fz_ ws x (fun w' hw=>h w' (by simp [hw]))
  have h1:joW (w::ws++[x])=w++32::joW (ws++[x]):=by
   cases ws with
   |nil=>rfl
   |cons a l=>rfl
  rw [h1,List.length_cons,wdsN,bd_ _ (h w (by simp))]
  simp [ih]
/-- A line begins with that word and a blank. -/
def ahP (wd l:By):Bool:=(wd++[32]).isPrefixOf l
theorem hI_ {wd l:By}:ahP wd l=true↔∃ r,l=wd++32::r:=by
 unfold ahP
 rw [List.isPrefixOf_iff_prefix]
 constructor
 ·rintro ⟨r,rfl⟩;exact ⟨r,by simp⟩
 ·rintro ⟨r,rfl⟩;exact ⟨r,by simp⟩
theorem m1_ {wd l:By} (h:ahP wd l=true) (hw:wd≠[]):l.head?=wd.head?:=by
 obtain ⟨r,rfl⟩:=hI_.1 h
 cases wd with
 |nil=>exact absurd rfl hw
 |cons x t=>rfl
theorem dI_ (wd x:By) (l:List By):ahP wd (joW (wd::x::l))=true:=hI_.2 ⟨_,rfl⟩
theorem o5_ {wd l:By} (k:Nat) (h:ahP wd l=true) (hw:(32:UInt8)∉wd):∃ r,l=wd++32::r∧wdsN (k+1) l=wd::wdsN k r:=by
 obtain ⟨r,rfl⟩:=hI_.1 h
 exact ⟨r,rfl,by rw [wdsN,bd_ _ hw]⟩
/-- Lines of a text, each with a byte 10 behind it. -/
def catL (ls:List By):By:=ls.flatMap (·++[10])
def lnsB:Nat->By->Option (List By)
 |0,s=>if s=[] then some [] else none
 |k+1,s=>if s=[] then some [] else match cutB 10 s with
  |none=>none
  |some q=>(lnsB k q.2).map (q.1::·)
theorem en_:∀ {k:Nat} {s:By} {ls:List By},lnsB k s=some ls->s=catL ls∧∀ l∈ls,(10:UInt8)∉l
 |0,s,ls,h=>by
  unfold lnsB at h
  split at h
  ·next hs=>obtain rfl:=Option.some.inj h;exact ⟨hs,fun l hl=>by cases hl⟩
  ·cases h
 |k+1,s,ls,h=>by
  unfold lnsB at h
  split at h
  ·next hs=>obtain rfl:=Option.some.inj h;exact ⟨hs,fun l hl=>by cases hl⟩
  ·split at h
   ·cases h
   ·next q hq=>
    obtain ⟨h1,h2⟩:=ay_ (a:=q.1) (b:=q.2) hq
    cases hc:lnsB k q.2 with
    |none=>rw [hc] at h;cases h
    |some r=>
     rw [hc] at h
     obtain rfl:=Option.some.inj h
     obtain ⟨h3,h4⟩:=en_ hc
     refine ⟨?_,fun l hl=>?_⟩
     ·rw [h1,h3];simp [catL]
     ·rcases List.mem_cons.1 hl with rfl | e
      ·exact h2
      ·exact h4 l e
theorem iJ_:∀ {k:Nat} {ls:List By},(∀ l∈ls,(10:UInt8)∉l)->(catL ls).length<=k->lnsB k (catL ls)=some ls
 |0,[],_,_=>rfl
 |k+1,[],_,_=>rfl
 |0,l::ls,_,h=>by simp [catL] at h
 |k+1,l::ls,h,hk=>by
  have e:catL (l::ls)=l++10::catL ls:=by simp [catL]
  rw [e] at hk
  simp only [List.length_append,List.length_cons] at hk
  rw [e,lnsB,if_neg (by simp),bd_ _ (h l (by simp))]
  simp [iJ_ (k:=k) (ls:=ls) (fun l' hl=>h l' (by simp [hl])) (by omega)]
theorem dR_ (a b:List By):catL (a++b)=catL a++catL b:=by simp [catL]
theorem bU_ (a:By) (b:List By):catL (a::b)=a++[10]++catL b:=by simp [catL]
/-- All words. -/
def wdsA (l:By):List By:=wdsN l.length l
end Go.Proofs.YtigldeccfpkdmaaGreatDoor
namespace Go.Proofs.YtigldeccfpkdmaaGreatDoor
open Go.RowKit Go.BigFrame
set_option maxHeartbeats 20000000
set_option maxRecDepth 100000
def charB (c:UInt8):Bool:=decide (32<=(c.toNat:Int))&&decide ((c.toNat:Int)<=126)
def plainB (d:ByteArray):Bool:=d.data.toList.all charB
def dataOkB (d:ByteArray):Bool:=decide (1<=d.size)&&decide (d.size<=20)&&plainB d
theorem a5_ (s:ByteArray) (k:Nat) (h:k<s.size):s.data.toList.drop k=s[k]::s.data.toList.drop (k+1):=by
 rw [List.drop_eq_getElem_cons (by simpa using h)];rfl
theorem cY_ (d:ByteArray) (w:World) (hd:d.size<=9223372036854775807) :
  Calls Tryz.prog 163 #[.string d] w fun e w'=>e=.returned (.bool (dataOkB d))∧w'=w:=by
 by_cases h1:1<=d.size∧d.size<=20
 ·have hfin:Hid (dataOkB d=(d.data.toList.drop 0).all charB):=by show _=_;simp [dataOkB,plainB,h1]
  obtain ⟨h1,h20⟩:=h1
  go_enter Tryz.func163,Tryz.ntmps163
  go_wp2_with fail
  go_loop [14] (fun ix=>∃ (k:Nat),k<=d.size∧ix=.int .i64 k∧Hid (dataOkB d=(d.data.toList.drop k).all charB)) (fun ix=>d.size-(intOf ix).toNat)
  case atStart=>exact ⟨0,Nat.zero_le _,rfl,hfin⟩
  case round=>
   obtain ⟨k,hk,rfl,hI⟩:=hrel
   by_cases hlt:k<d.size
   ·have hs:Hid (d.data.toList.drop k=d[k]::d.data.toList.drop (k+1)):=a5_ d k hlt
    cases hc:charB d[k]
    ·have hc':(d[k].toNat:Int)<32∨126<(d[k].toNat:Int):=by simp [charB] at hc;omega
     go_wp2
     all_goals go_returns
     all_goals go_light
     all_goals (refine ⟨ab_ ?_,rfl⟩;rw [hI.out,hs.out];simp [hc])
    ·have hc':32<=(d[k].toNat:Int)∧(d[k].toNat:Int)<=126:=by simp [charB] at hc;omega
     obtain ⟨hc1,hc2⟩:=hc'
     go_wp2
     go_round
     case rel=>exact ⟨k+1,by omega,by go_num,by show _=_;rw [hI.out,hs.out];simp [hc]⟩
     case measure=>simp [intOf];omega
   ·obtain rfl:k=d.size:=by omega
    go_wp2
    go_returns
    go_light
    refine ⟨ab_ ?_,rfl⟩
    rw [hI.out,List.drop_of_length_le (by simp)];rfl
 ·have hfin:Hid (dataOkB d=false):=by show _=_;simp [dataOkB];omega
  go_enter Tryz.func163,Tryz.ntmps163
  go_wp2
  all_goals go_returns
  all_goals go_light
  all_goals exact ⟨ab_ hfin.out.symm,rfl⟩
theorem bO_ (d:ByteArray) (w:World) (hd:d.size<=9223372036854775807) :
  Calls Tryz.prog 177 #[.string d] w fun e w'=>e=.returned (.bool (plainB d&&decide (d.size<=20)))∧w'=w:=by
 have hfin:Hid (plainB d=(d.data.toList.drop 0).all charB):=rfl
 go_enter Tryz.func177,Tryz.ntmps177
 go_wp2_with fail
 go_loop [3] (fun ix=>∃ (k:Nat),k<=d.size∧ix=.int .i64 k∧Hid (plainB d=(d.data.toList.drop k).all charB)) (fun ix=>d.size-(intOf ix).toNat)
 case atStart=>exact ⟨0,Nat.zero_le _,rfl,hfin⟩
 case round=>
  obtain ⟨k,hk,rfl,hI⟩:=hrel
  by_cases hlt:k<d.size
  ·have hs:Hid (d.data.toList.drop k=d[k]::d.data.toList.drop (k+1)):=a5_ d k hlt
   cases hc:charB d[k]
   ·have hc':(d[k].toNat:Int)<32∨126<(d[k].toNat:Int):=by simp [charB] at hc;omega
    go_wp2
    all_goals go_returns
    all_goals go_light
    all_goals (refine ⟨ab_ ?_,rfl⟩;rw [hI.out,hs.out];simp [hc])
   ·have hc':32<=(d[k].toNat:Int)∧(d[k].toNat:Int)<=126:=by simp [charB] at hc;omega
    obtain ⟨hc1,hc2⟩:=hc'
    go_wp2
    go_round
    case rel=>exact ⟨k+1,by omega,by go_num,by show _=_;rw [hI.out,hs.out];simp [hc]⟩
    case measure=>simp [intOf];omega
  ·obtain rfl:k=d.size:=by omega
   go_wp2
   go_returns
   go_light
   refine ⟨ab_ ?_,rfl⟩
   rw [hI.out,List.drop_of_length_le (by simp)];rw [Bool.eq_iff_iff];simp;omega
/-- SpaceOk's rounds: the size, the first byte that is free, the extents to come. -/
def xgo (size:Int):Int->List Ex->Bool
 |_,[]=>true
 |next,e::r=>dataOkB e.d&&decide (next<=e.a)&&decide (e.a<=size+1-e.d.size)&&xgo size (e.a+e.d.size) r
def spaceOkB (size:Int) (l:List Ex):Bool:=decide (1<=size)&&decide (size<=400)&&decide (l.length<=60)&&xgo size 1 l
/-- The strings of a list are as short as strings are. -/
def Strs (l:List Ex):Prop:=∀ e∈l,e.d.size<=9223372036854775807
theorem Strs.at {l:List Ex} (h:Strs l) {k:Nat} {e:Ex} (he:l[k]?=some e):e.d.size<=9223372036854775807:=h e (List.mem_of_getElem? he)
theorem bP_ (size:Int) (a:Option Addr) (n cap:Nat) (l:List Ex) (w:World) (h:ExsAt w a n l) (hstr:Strs l) (hn:n<=4194304) :
  Calls Tryz.prog 99 #[.int .i64 size,.slice a n cap] w fun e w'=>e=.returned (.bool (spaceOkB size l))∧Below w.heap.size w w':=by
 have hlen:Hid (l.length=n):=h.len
 by_cases h0:1<=size∧size<=400∧n<=60
 ·have hfin:Hid (spaceOkB size l=xgo size 1 (l.drop 0)):=by show _=_;simp [spaceOkB,hlen.out,h0]
  obtain ⟨h1,h400,h60⟩:=h0
  go_enter Tryz.func99,Tryz.ntmps99
  go_wp2_with fail
  go_loopw [5,21] (fun nx ix wr=>∃ (k:Nat) (next:Int),k<=n∧ix=.int .i64 k∧nx=.int .i64 next∧1<=next∧next<=421∧Hid (spaceOkB size l=xgo size next (l.drop k))∧Below w.heap.size w wr) (fun _ ix _=>n-(intOf ix).toNat)
  case atStart=>exact ⟨0,1,Nat.zero_le _,rfl,rfl,by omega,by omega,hfin,Below.refl _ _⟩
  case round=>
   obtain ⟨k,next,hk,rfl,rfl,hx1,hx2,hI,hB⟩:=hrel
   by_cases hlt:k<n
   ·obtain ⟨b,o,p,rfl,hp,c0,c1⟩:=bp_ (h.below hB) hlt
    have hd:Hid (l.drop k=p::l.drop (k+1)):=aj_ hp
    have hsz:=hstr.at hp
    clear hp
    have hwr:=hB.size
    cases hdo:dataOkB p.d
    ·go_wp2_with fail
     refine (cY_ p.d _ hsz).mono ?_
     rintro e w1 ⟨rfl,rfl⟩
     rw [hdo]
     go_wp2
     go_returns
     go_light
     refine ⟨ab_ ?_,by go_grown⟩
     rw [hI.out,hd.out];simp [xgo,hdo]
    ·have hd20:1<=p.d.size∧p.d.size<=20:=by simp [dataOkB] at hdo;exact hdo.1
     obtain ⟨hd1,hd2⟩:=hd20
     by_cases hok:next<=p.a∧p.a<=size+1-p.d.size
     ·obtain ⟨ha1,ha2⟩:=hok
      go_wp2_with fail
      refine (cY_ p.d _ hsz).mono ?_
      rintro e w1 ⟨rfl,rfl⟩
      rw [hdo]
      go_wp2
      go_roundw
      case rel=>exact ⟨k+1,p.a+p.d.size,by omega,by go_num,by go_num,by omega,by omega,by show _=_;rw [hI.out,hd.out];simp [xgo,hdo,ha1,ha2],by go_grown⟩
      case measure=>simp [intOf];omega
     ·go_wp2_with fail
      refine (cY_ p.d _ hsz).mono ?_
      rintro e w1 ⟨rfl,rfl⟩
      rw [hdo]
      go_wp2
      all_goals go_returns
      all_goals go_light
      all_goals refine ⟨ab_ ?_,by go_grown⟩
      all_goals (rw [hI.out,hd.out];simp [xgo,hdo];omega)
   ·obtain rfl:k=n:=by omega
    go_wp2
    go_returns
    go_light
    refine ⟨ab_ ?_,hB⟩
    rw [hI.out,List.drop_of_length_le (Nat.le_of_eq hlen.out)];rfl
 ·have hfin:Hid (spaceOkB size l=false):=by show _=_;have:=hlen.out;simp [spaceOkB];omega
  go_enter Tryz.func99,Tryz.ntmps99
  go_wp2
  all_goals go_returns
  all_goals go_light
  all_goals exact ⟨ab_ hfin.out.symm,Below.refl _ _⟩
end Go.Proofs.YtigldeccfpkdmaaGreatDoor
