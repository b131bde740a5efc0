/- What a reader does with lines: plain. -/
import Derived.Test.YtigldeccfpkdmaaGreatDoorK32
namespace Go.Proofs.YtigldeccfpkdmaaGreatDoor
open Go
set_option maxHeartbeats 20000000
set_option maxRecDepth 100000
theorem cB_ {α:Type} {wd:By} {f:By->Option α}:∀ {ls:List By} {q:List α×List By},manyP wd f ls=some q->q.2.length+q.1.length<=ls.length
 |[],q,h=>by obtain rfl:=Option.some.inj h;simp
 |l::r,q,h=>by
  rw [manyP] at h
  split at h
  ·cases hf:f l with
   |none=>rw [hf] at h;cases h
   |some x=>
    rw [hf] at h
    cases hm:manyP wd f r with
    |none=>rw [hm] at h;cases h
    |some p=>
     rw [hm] at h
     obtain rfl:=Option.some.inj h
     have:=cB_ hm
     simp
     omega
  ·obtain rfl:=Option.some.inj h;simp
theorem e6_:∀ (n k k':Nat) (ls:List By),ls.length<=n->ls.length<=k->ls.length<=k'->itemsP k ls=itemsP k' ls
 |0,k,k',ls,h,_,_=>by
  obtain rfl:=List.eq_nil_of_length_eq_zero (Nat.le_zero.1 h)
  cases k<;>cases k'<;>rfl
 |n+1,k,k',[],h,h1,h2=>by cases k<;>cases k'<;>rfl
 |n+1,k,k',l::r,h,h1,h2=>by
  simp only [List.length_cons] at h h1 h2
  obtain ⟨k,rfl⟩:∃ j,k=j+1:=⟨k-1,by omega⟩
  obtain ⟨k',rfl⟩:∃ j,k'=j+1:=⟨k'-1,by omega⟩
  rw [itemsP,itemsP]
  split
  ·cases fileP l with
   |none=>rfl
   |some nm=>
    cases hm:manyP partK ptP r with
    |none=>rfl
    |some q=>
     have:=cB_ hm
     simp only [Option.bind_some]
     rw [e6_ n k k' q.2 (by omega) (by omega) (by omega)]
  ·rfl
theorem mN_ {ls:List By} (h:ahL fileK ls=false):itemsP ls.length ls=some ([],ls):=by
 cases ls with
 |nil=>rfl
 |cons l r=>rw [List.length_cons,itemsP,if_neg];intro e;rw [show ahL fileK (l::r)=ahP fileK l from rfl,e] at h;cases h
theorem kW_ {l:By} {r:List By} (h:ahP fileK l=true):itemsP (l::r).length (l::r)=(fileP l).bind fun nm=>(manyP partK ptP r).bind fun q=>(itemsP q.2.length q.2).map fun s=>(⟨nm,q.1⟩::s.1,s.2):=by
 rw [List.length_cons,itemsP,if_pos h]
 cases fileP l with
 |none=>rfl
 |some nm=>
  cases hm:manyP partK ptP r with
  |none=>rfl
  |some q=>
   have:=cB_ hm
   simp only [Option.bind_some]
   rw [e6_ _ r.length q.2.length q.2 (Nat.le_refl _) (by omega) (Nat.le_refl _)]
theorem dw_:∀ {k:Nat} {ls:List By} {q:List It×List By},itemsP k ls=some q->q.2.length+q.1.length<=ls.length∧∀ x∈q.1,x.ps.length<=ls.length
 |0,ls,q,h=>by obtain rfl:=Option.some.inj h;simp
 |k+1,[],q,h=>by obtain rfl:=Option.some.inj h;simp
 |k+1,l::r,q,h=>by
  rw [itemsP] at h
  split at h
  ·cases hf:fileP l with
   |none=>rw [hf] at h;cases h
   |some nm=>
    rw [hf] at h
    simp only [Option.bind_some] at h
    cases hm:manyP partK ptP r with
    |none=>rw [hm] at h;cases h
    |some p=>
     rw [hm] at h
     simp only [Option.bind_some] at h
     have h1:=cB_ hm
     cases hi:itemsP k p.2 with
     |none=>rw [hi] at h;cases h
     |some s=>
      rw [hi] at h
      obtain rfl:=Option.some.inj h
      obtain ⟨h2,h3⟩:=dw_ hi
      refine ⟨by simp;omega,fun x hx=>?_⟩
      rcases List.mem_cons.1 hx with rfl | hx
      ·simp;omega
      ·have:=h3 x hx;simp;omega
  ·obtain rfl:=Option.some.inj h;simp
theorem gd_:∀ (n k k':Nat) (ls:List By),ls.length<=n->ls.length<=k->ls.length<=k'->volsP k ls=volsP k' ls
 |0,k,k',ls,h,_,_=>by
  obtain rfl:=List.eq_nil_of_length_eq_zero (Nat.le_zero.1 h)
  cases k<;>cases k'<;>rfl
 |n+1,k,k',[],h,h1,h2=>by cases k<;>cases k'<;>rfl
 |n+1,k,k',l::r,h,h1,h2=>by
  simp only [List.length_cons] at h h1 h2
  obtain ⟨k,rfl⟩:∃ j,k=j+1:=⟨k-1,by omega⟩
  obtain ⟨k',rfl⟩:∃ j,k'=j+1:=⟨k'-1,by omega⟩
  rw [volsP,volsP]
  split
  ·cases voP l with
   |none=>rfl
   |some nm=>
    cases hm:itemsP r.length r with
    |none=>rfl
    |some q=>
     have:=(dw_ hm).1
     simp only [Option.bind_some]
     rw [gd_ n k k' q.2 (by omega) (by omega) (by omega)]
  ·rfl
theorem nZ_ {ls:List By} (h:ahL volK ls=false):volsP ls.length ls=some ([],ls):=by
 cases ls with
 |nil=>rfl
 |cons l r=>rw [List.length_cons,volsP,if_neg];intro e;rw [show ahL volK (l::r)=ahP volK l from rfl,e] at h;cases h
/-- One volume. -/
def volP1 (l:By) (r:List By):Option (Vo×List By):=(voP l).bind fun h=>(itemsP r.length r).map fun q=>(⟨h.1,h.2.1,h.2.2,q.1⟩,q.2)
theorem mO_ {l:By} {r:List By} (h:ahP volK l=true):volsP (l::r).length (l::r)=(volP1 l r).bind fun v=>(volsP v.2.length v.2).map fun s=>(v.1::s.1,s.2):=by
 rw [List.length_cons,volsP,if_pos h,volP1]
 cases voP l with
 |none=>rfl
 |some nm=>
  cases hm:itemsP r.length r with
  |none=>rfl
  |some q=>
   have:=(dw_ hm).1
   simp only [Option.bind_some,Option.map_some]
   rw [gd_ _ r.length q.2.length q.2 (Nat.le_refl _) (by omega) (Nat.le_refl _)]
theorem len2 {α:Type}:∀ {l:List α},l.length=2->∃ x a,l=[x,a]
 |[x,a],_=>⟨x,a,rfl⟩
theorem len3 {α:Type}:∀ {l:List α},l.length=3->∃ x a b,l=[x,a,b]
 |[x,a,b],_=>⟨x,a,b,rfl⟩
theorem len4 {α:Type}:∀ {l:List α},l.length=4->∃ x a b c,l=[x,a,b,c]
 |[x,a,b,c],_=>⟨x,a,b,c,rfl⟩
theorem oN_ {wd l:By} {r:List By} (ha:ahP wd l=true) (h:takP wd 1 (l::r)=none):fileP l=none:=by
 have:=cz_ ha h
 unfold fileP
 split
 ·next e=>rw [e] at this;simp at this
 ·rfl
theorem oO_ {wd l:By} {r:List By} {q:List By×List By} (ha:ahP wd l=true) (h:takP wd 1 (l::r)=some q):∃ a,q=([a],r)∧fileP l=some (bA a):=by
 obtain ⟨h1,rfl⟩:=cA_ ha h
 obtain ⟨x,a,e⟩:=len2 h1
 refine ⟨a,by rw [e];rfl,?_⟩
 unfold fileP
 rw [e]
theorem oP_ {wd l:By} {r:List By} (ha:ahP wd l=true) (h:takP wd 3 (l::r)=none):ptP l=none:=by
 have:=cz_ ha h
 unfold ptP
 split
 ·next e=>rw [e] at this;simp at this
 ·rfl
theorem oQ_ {wd l:By} {r:List By} {q:List By×List By} (ha:ahP wd l=true) (h:takP wd 3 (l::r)=some q):∃ a f n,q=([a,f,n],r)∧ptP l=(numP a).bind fun a=>(numP f).bind fun f=>(numP n).map fun n=>⟨a,f,n⟩:=by
 obtain ⟨h1,rfl⟩:=cA_ ha h
 obtain ⟨x,a,f,n,e⟩:=len4 h1
 refine ⟨a,f,n,by rw [e];rfl,?_⟩
 unfold ptP
 rw [e]
theorem oR_ {wd l:By} {r:List By} (ha:ahP wd l=true) (h:takP wd 3 (l::r)=none):voP l=none:=by
 have:=cz_ ha h
 unfold voP
 split
 ·next e=>rw [e] at this;simp at this
 ·rfl
theorem oS_ {wd l:By} {r:List By} {q:List By×List By} (ha:ahP wd l=true) (h:takP wd 3 (l::r)=some q):∃ a f n,q=([a,f,n],r)∧voP l=(numP a).bind fun i=>(flagP n).map fun b=>(i,bA f,b):=by
 obtain ⟨h1,rfl⟩:=cA_ ha h
 obtain ⟨x,a,f,n,e⟩:=len4 h1
 refine ⟨a,f,n,by rw [e];rfl,?_⟩
 unfold voP
 rw [e]
theorem oT_ {wd l:By} {r:List By} (ha:ahP wd l=true) (h:takP wd 2 (l::r)=none):hdP l=none:=by
 have:=cz_ ha h
 unfold hdP
 split
 ·next e=>rw [e] at this;simp at this
 ·rfl
theorem oU_ {wd l:By} {r:List By} {q:List By×List By} (ha:ahP wd l=true) (h:takP wd 2 (l::r)=some q):∃ a b,q=([a,b],r)∧hdP l=(numP a).bind fun a=>(numP b).map fun b=>(a,b):=by
 obtain ⟨h1,rfl⟩:=cA_ ha h
 obtain ⟨x,a,b,e⟩:=len3 h1
 refine ⟨a,b,by rw [e];rfl,?_⟩
 unfold hdP
 rw [e]
theorem oV_ {wd l:By} {r:List By} (ha:ahP wd l=true) (h:takP wd 2 (l::r)=none):exP l=none:=by
 have:=cz_ ha h
 unfold exP
 split
 ·next e=>rw [e] at this;simp at this
 ·rfl
theorem oW_ {wd l:By} {r:List By} {q:List By×List By} (ha:ahP wd l=true) (h:takP wd 2 (l::r)=some q):∃ a d,q=([a,d],r)∧exP l=(numP a).map fun n=>⟨n,bA d⟩:=by
 obtain ⟨h1,rfl⟩:=cA_ ha h
 obtain ⟨x,a,b,e⟩:=len3 h1
 refine ⟨a,b,by rw [e];rfl,?_⟩
 unfold exP
 rw [e]
end Go.Proofs.YtigldeccfpkdmaaGreatDoor
