/- Texts of pools, read and written; what is drawn. -/
import Derived.Test.YtkiceokhlceciaaGreatDoorU31
set_option maxHeartbeats 20000000
set_option maxRecDepth 100000
namespace Go.Proofs.YtkiceokhlceciaaGreatDoor
section
open Go Tryz
theorem Af (l:By):(bA l).data.toList=l:=by simp[bA]
theorem GO {b:UInt8}{d:Nat}(h:Lib.digitVal b=some d):d<10∧b=UInt8.ofNat (48+d):=by
 unfold Lib.digitVal at h
 split at h
 ·next hb=>
  have h:=Zi h
  refine ⟨by omega,?_⟩
  apply UInt8.toNat_inj.1
  simp
  omega
 ·cases h
theorem GN:∀ (k:Nat) (t:By),t.length=k->t≠[]->(t.head?≠some 48∨t.length=1)->∀ n,Lib.decFrom 0 t=some n->Lib.decDigits n=t:=by
 intro k
 induction k with
 |zero=>intro t h1 h2;exact absurd (Zt h1) h2
 |succ k ih=>
  intro t h1 h2 h3 n h4
  obtain⟨a,b,rfl⟩:∃ a b,t=a++[b]:=⟨t.dropLast,t.getLast h2,(List.dropLast_concat_getLast h2).symm⟩
  rw[Dj] at h4
  cases ha:Lib.decFrom 0 a with
  |none=>rw[ha] at h4;cases h4
  |some m=>
   rw[ha] at h4
   simp only[YO,Lib.decFrom] at h4
   cases hd:Lib.digitVal b with
   |none=>rw[hd] at h4;cases h4
   |some d=>
    rw[hd] at h4
    simp only[Zo] at h4
    obtain⟨hb,rfl⟩:=GO hd
    cases a with
    |nil=>
     simp[Lib.decFrom] at ha
     subst ha
     rw[Lib.decDigits,dif_pos (by omega)]
     simp at h4
     simp[<-h4]
    |cons x r=>
     have h5:(x::r).head?≠some 48:=by
      rcases h3 with h3 | h3
      ·simpa using h3
      ·simp at h3
     have h6:=ih (x::r) (by simpa using h1) (by simp) (.inl h5) m ha
     have hm:1<=m:=by
      rcases Nat.eq_zero_or_pos m with rfl | h
      ·rw[show Lib.decDigits 0=[48] by rw[Lib.decDigits];simp] at h6
       rw[<-h6] at h5
       simp at h5
      ·exact h
     rw[Lib.decDigits,dif_neg (by omega),show n / 10=m by omega,show n % 10=d by omega,h6]
theorem DJ:∀ (t:By) (k n:Nat),Lib.decFrom k t=some n->n<(k+1)*10 ^ t.length
 |[],k,n,h=>by simp[Lib.decFrom] at h;simp;omega
 |x::t,k,n,h=>by
  simp only[Lib.decFrom] at h
  cases hx:Lib.digitVal x with
  |none=>rw[hx] at h;cases h
  |some d=>
   rw[hx] at h
   have h1:=DJ t _ n h
   have h2:=(GO hx).1
   have h3:(k*10+d+1)*10 ^ t.length<=((k+1)*10)*10 ^ t.length:=ZS _ (by omega)
   simp only[Zw,Nat.pow_succ]
   rw[Nat.mul_assoc,Nat.mul_comm 10] at h3
   omega
theorem Bh {s:By}{n:Int}(h:numP s=some n):s=Lib.itoa n∧AK n:=by
 have ha:∀ {t:By} {k:Nat},¬ 10<t.length->Lib.decFrom 0 t=some k->k<10000000000:=fun {t k} h1 h2=>by
  have:=DJ t 0 k h2
  have h3:10 ^ t.length<=10 ^ 10:=Nat.pow_le_pow_right (by omega) (by omega)
  omega
 unfold numP at h
 split at h
 ·next t=>
  split at h
  ·cases h
  ·next hc=>
   rw[not_or,not_or] at hc
   obtain⟨c1,c2,c3⟩:=hc
   cases hd:Lib.decFrom 0 t with
   |none=>rw[hd] at h;cases h
   |some k=>
    rw[hd] at h
    obtain rfl:-(k:Int)=n:=Zi h
    have e:=GN _ t rfl (fun e=>by subst e;simp at c1) (.inl c3) k hd
    have hk:0<k:=by
     rcases Nat.eq_zero_or_pos k with rfl | hk
     ·rw[show Lib.decDigits 0=[48] by rw[Lib.decDigits];simp] at e
      rw[<-e] at c3
      simp at c3
     ·exact hk
    refine ⟨?_,by have:=ha c2 hd;exact⟨by omega,by omega⟩⟩
    unfold Lib.itoa
    rw[if_pos (by omega),show (-(k:Int)).natAbs=k by omega,e]
 ·next t hs=>
  split at h
  ·cases h
  ·next hc=>
   rw[not_or,not_or] at hc
   obtain⟨c1,c2,c3⟩:=hc
   cases hd:Lib.decFrom 0 s with
   |none=>rw[hd] at h;cases h
   |some k=>
    rw[hd] at h
    obtain rfl:(k:Int)=n:=Zi h
    have e:=GN _ s rfl (fun e=>by subst e;simp at c1) (by
     by_cases h4:s.head?=some 48
     ·exact .inr (by have h6:¬ 1<s.length:=fun h5=>c3 ⟨h4,h5⟩
                     omega)
     ·exact .inl h4) k hd
    refine ⟨?_,by have:=ha c2 hd;exact⟨by omega,by omega⟩⟩
    unfold Lib.itoa
    rw[if_neg (by omega),show (k:Int).toNat=k by omega,e]
theorem A4 {c:UInt8}:∀ {l a b:By},cutB c l=some (a,b)->l=a++c::b∧c∉a
 |[],a,b,h=>by cases h
 |x::l,a,b,h=>by
  unfold cutB at h
  split at h
  ·next hx=>obtain⟨rfl,rfl⟩:=Prod.mk.inj (Zi h);simp[hx]
  ·next hx=>
   cases hc:cutB c l with
   |none=>rw[hc] at h;cases h
   |some q=>
    rw[hc] at h
    obtain⟨rfl,rfl⟩:=Prod.mk.inj (Zi h)
    obtain⟨h1,h2⟩:=A4 (a:=q.1) (b:=q.2) hc
    refine ⟨by rw[h1];rfl,?_⟩
    intro hm
    rcases Zn.1 hm with e | e
    ·exact hx e.symm
    ·exact h2 e
theorem Fl (k:Nat)(l:By):A0 k l≠[]:=by
 cases k with
 |zero=>simp[A0]
 |succ k=>unfold A0;split<;>simp
theorem Je:∀ (k:Nat) (l:By),joW (A0 k l)=l
 |0,l=>rfl
 |k+1,l=>by
  unfold A0
  split
  ·rfl
  ·next q hq=>
   have h1:=Je k q.2
   obtain⟨h2,_⟩:=A4 (a:=q.1) (b:=q.2) hq
   cases hc:A0 k q.2 with
   |nil=>exact absurd hc (Fl _ _)
   |cons x r=>rw[hc] at h1;rw[joW,h1,<-h2]
theorem MI {wd l:By}(k:Nat)(h:ahP wd l=true)(hw:(32:UInt8)∉wd):∃ r,l=wd++32::r∧A0 (k+1) l=wd::A0 k r:=by
 obtain⟨r,rfl⟩:=Hg.1 h
 exact⟨r,rfl,by rw[A0,Ca _ hw]⟩
theorem Fx:∀ {k:Nat} {s:By} {ls:List By},lnsB k s=some ls->s=Db ls∧∀ l∈ls,(10:UInt8)∉l
 |0,s,ls,h=>by
  unfold lnsB at h
  split at h
  ·next hs=>obtain rfl:=Zi h;exact⟨hs,fun l hl=>by cases hl⟩
  ·cases h
 |k+1,s,ls,h=>by
  unfold lnsB at h
  split at h
  ·next hs=>obtain rfl:=Zi h;exact⟨hs,fun l hl=>by cases hl⟩
  ·split at h
   ·cases h
   ·next q hq=>
    obtain⟨h1,h2⟩:=A4 (a:=q.1) (b:=q.2) hq
    cases hc:lnsB k q.2 with
    |none=>rw[hc] at h;cases h
    |some r=>
     rw[hc] at h
     obtain rfl:=Zi h
     obtain⟨h3,h4⟩:=Fx hc
     refine ⟨?_,fun l hl=>?_⟩
     ·rw[h1,h3];simp[Db]
     ·rcases Zn.1 hl with rfl | e
      ·exact h2
      ·exact h4 l e
end
section
open Go Go.RowKit Go.BigFrame Tryz
def Dz (o:Option Int):Value:=match o with
 |none=>.tuple #[.int .i64 0,.bool false]
 |some n=>.tuple #[.int .i64 n,.bool true]
theorem C0 {l:By}:∀ {k:Nat},∀ w∈A0 k l,w.length<=l.length:=by
 intro k
 induction k generalizing l with
 |zero=>intro w hw;simp[A0] at hw;subst hw;exact Zd _
 |succ k ih=>
  intro w hw
  rw[A0] at hw
  split at hw
  ·simp at hw;subst hw;exact Zd _
  ·next q hq=>
   obtain⟨h1,_⟩:=A4 (a:=q.1) (b:=q.2) hq
   rcases Zn.1 hw with rfl | hw
   ·rw[h1];simp
   ·have:=ih w hw
    rw[h1];simp;omega
theorem BQ (B:Nat)(w:World):AE B w (.agg #[.int .i64 0,.int .i64 0,.slice none 0 0,.slice none 0 0,.slice none 0 0,.slice none 0 0]) ⟨0,0,[],[],[],[]⟩:=
 ⟨none,0,0,none,0,0,none,0,0,none,0,0,[],rfl,aB_,aB_,aB_,aB_,fun x y h=>(by cases h),.nil,List.nodup_nil,List.nodup_nil⟩
theorem KN:∀ (l:List IQ),∀ u∈l.flatMap IQ.cs,u.oneCell'=true:=by
 intro l u hu
 obtain⟨x,_,hx⟩:=ZL.1 hu
 simp[IQ.cs] at hx
 rcases hx with rfl | rfl<;>rfl
theorem Lj:∀ (l:List VQ),∀ u∈l.flatMap VQ.cs,u.oneCell'=true:=by
 intro l u hu
 obtain⟨x,_,hx⟩:=ZL.1 hu
 simp[VQ.cs] at hx
 rcases hx with rfl | rfl | rfl | rfl<;>rfl
end
section
open Go Tryz
theorem Fe {α:Type}{wd:By}{f:By->Option α}{g:α->By}(hg:∀ l x,ahP wd l=true->f l=some x->l=g x):∀ {ls:List By} {xs:List α} {r:List By},manyP wd f ls=some (xs,r)->ls=xs.map g++r∧r.length<=ls.length
 |[],xs,r,h=>by obtain⟨rfl,rfl⟩:=Prod.mk.inj (Zi h);exact⟨rfl,Zd _⟩
 |l::ls,xs,r,h=>by
  unfold manyP at h
  split at h
  ·next ha=>
   cases hf:f l with
   |none=>rw[hf] at h;cases h
   |some x=>
    rw[hf,YO] at h
    cases hm:manyP wd f ls with
    |none=>rw[hm] at h;cases h
    |some q=>
     rw[hm] at h
     obtain⟨rfl,rfl⟩:=Prod.mk.inj (Zi h)
     obtain⟨h1,h2⟩:=Fe hg (xs:=q.1) (r:=q.2) hm
     refine ⟨?_,by simp;omega⟩
     rw[YD,YF,<-h1,<-hg l x ha hf]
  ·obtain⟨rfl,rfl⟩:=Prod.mk.inj (Zi h);exact⟨rfl,Zd _⟩
theorem FG {wd l:By}{k:Nat}{x:By}{r:List By}(h:ahP wd l=true)(hw:(32:UInt8)∉wd)(e:A0 (k+1) l=x::r):l=joW (wd::r):=by
 obtain⟨s,_,h2⟩:=MI k h hw
 have h3:=Je (k+1) l
 rw[e] at h2
 obtain⟨rfl,rfl⟩:=List.cons.inj h2
 rw[<-h3,e]
theorem MQ {l:By}{e:Ex}(h:ahP exK l=true)(he:exP l=some e):l=DM e:=by
 unfold exP at he
 split at he
 ·next a d hc=>
  cases h1:numP a with
  |none=>rw[h1] at he;cases he
  |some n=>
   rw[h1] at he
   obtain rfl:=Zi he
   rw[FG h (by decide) hc,(Bh h1).1,DM,Af]
 ·cases he
theorem MW {l:By}{e:Pt}(h:ahP partK l=true)(he:ptP l=some e):l=FA e:=by
 unfold ptP at he
 split at he
 ·next a f n hc=>
  cases h1:numP a with
  |none=>rw[h1] at he;cases he
  |some a'=>
   cases h2:numP f with
   |none=>rw[h1,h2] at he;cases he
   |some f'=>
    cases h3:numP n with
    |none=>rw[h1,h2,h3] at he;cases he
    |some n'=>
     rw[h1,h2,h3] at he
     obtain rfl:=Zi he
     rw[FG h (by decide) hc,(Bh h1).1,(Bh h2).1,(Bh h3).1,FA]
 ·cases he
theorem LF {l:By}{e:ByteArray}(h:ahP Bz l=true)(he:fileP l=some e):l=joW [Bz,e.data.toList]:=by
 unfold fileP at he
 split at he
 ·next a hc=>
  obtain rfl:=Zi he
  rw[FG h (by decide) hc,Af]
 ·cases he
theorem LI {s:By}{b:Bool}(h:Cd s=some b):s=Dm b:=by
 unfold Cd at h
 split at h
 ·next e=>obtain rfl:=Zi h;exact e
 ·split at h
  ·next e=>obtain rfl:=Zi h;exact e
  ·cases h
theorem M7 {l:By}{e:Int×ByteArray×Bool}(h:ahP Cl l=true)(he:voP l=some e):l=joW [Cl,Lib.itoa e.1,e.2.1.data.toList,Dm e.2.2]:=by
 unfold voP at he
 split at he
 ·next i nm f hc=>
  cases h1:numP i with
  |none=>rw[h1] at he;cases he
  |some a'=>
   cases h2:Cd f with
   |none=>rw[h1,h2] at he;cases he
   |some f'=>
    rw[h1,h2] at he
    obtain rfl:=Zi he
    rw[FG h (by decide) hc,(Bh h1).1,LI h2,Af]
 ·cases he
theorem L8 {wd l:By}{c:Ct}(hw:(32:UInt8)∉wd)(h:ahP wd l=true)(he:ctP l=some c):l=Bu wd c:=by
 unfold ctP at he
 split at he
 ·next a v f n hc=>
  cases h1:numP a with
  |none=>rw[h1] at he;cases he
  |some a'=>
   cases h2:numP v with
   |none=>rw[h1,h2] at he;cases he
   |some v'=>
    cases h3:numP n with
    |none=>rw[h1,h2,h3] at he;cases he
    |some n'=>
     rw[h1,h2,h3] at he
     obtain rfl:=Zi he
     rw[FG h hw hc,(Bh h1).1,(Bh h2).1,(Bh h3).1,Bu,Af]
 ·cases he
theorem MR {l:By}{e:Int×Int}(h:ahP BA l=true)(he:hdP l=some e):l=joW [BA,Lib.itoa e.1,Lib.itoa e.2]:=by
 unfold hdP at he
 split at he
 ·next a b hc=>
  cases h1:numP a with
  |none=>rw[h1] at he;cases he
  |some a'=>
   cases h2:numP b with
   |none=>rw[h1,h2] at he;cases he
   |some b'=>
    rw[h1,h2] at he
    obtain rfl:=Zi he
    rw[FG h (by decide) hc,(Bh h1).1,(Bh h2).1]
 ·cases he
theorem H0:∀ {k:Nat} {ls:List By} {xs:List It} {r:List By},itemsP k ls=some (xs,r)->ls=xs.flatMap BX++r∧r.length<=ls.length
 |0,ls,xs,r,h=>by obtain⟨rfl,rfl⟩:=Prod.mk.inj (Zi h);exact⟨rfl,Zd _⟩
 |k+1,[],xs,r,h=>by obtain⟨rfl,rfl⟩:=Prod.mk.inj (Zi h);exact⟨rfl,Zd _⟩
 |k+1,l::ls,xs,r,h=>by
  unfold itemsP at h
  split at h
  ·next ha=>
   cases hf:fileP l with
   |none=>rw[hf] at h;cases h
   |some nm=>
    rw[hf,YO] at h
    cases hm:manyP partK ptP ls with
    |none=>rw[hm] at h;cases h
    |some q=>
     rw[hm,YO] at h
     cases hi:itemsP k q.2 with
     |none=>rw[hi] at h;cases h
     |some s=>
      rw[hi] at h
      obtain⟨rfl,rfl⟩:=Prod.mk.inj (Zi h)
      obtain⟨h1,h2⟩:=Fe (g:=FA) (fun l x=>MW) (xs:=q.1) (r:=q.2) hm
      obtain⟨h3,h4⟩:=H0 (xs:=s.1) (r:=s.2) hi
      refine ⟨?_,by simp;omega⟩
      rw[ZF,BX,ZC,<-h3,YF,<-h1,<-LF ha hf]
  ·obtain⟨rfl,rfl⟩:=Prod.mk.inj (Zi h);exact⟨rfl,Zd _⟩
theorem JK:∀ {k:Nat} {ls:List By} {xs:List Vo} {r:List By},volsP k ls=some (xs,r)->ls=xs.flatMap Bt++r
 |0,ls,xs,r,h=>by obtain⟨rfl,rfl⟩:=Prod.mk.inj (Zi h);rfl
 |k+1,[],xs,r,h=>by obtain⟨rfl,rfl⟩:=Prod.mk.inj (Zi h);rfl
 |k+1,l::ls,xs,r,h=>by
  unfold volsP at h
  split at h
  ·next ha=>
   cases hf:voP l with
   |none=>rw[hf] at h;cases h
   |some e=>
    rw[hf,YO] at h
    cases hm:itemsP ls.length ls with
    |none=>rw[hm] at h;cases h
    |some q=>
     rw[hm,YO] at h
     cases hi:volsP k q.2 with
     |none=>rw[hi] at h;cases h
     |some s=>
      rw[hi] at h
      obtain⟨rfl,rfl⟩:=Prod.mk.inj (Zi h)
      have h1:=(H0 (xs:=q.1) (r:=q.2) hm).1
      have h3:=JK (xs:=s.1) (r:=s.2) hi
      rw[ZF,Bt,ZC,<-h3,YF,<-h1,<-M7 ha hf]
  ·obtain⟨rfl,rfl⟩:=Prod.mk.inj (Zi h);rfl
theorem LP {ls:List By}{p:Po}(h:Ea ls=some (p,[])):ls=Ch p:=by
 cases ls with
 |nil=>cases h
 |cons l r=>
  rw[Ea] at h
  split at h
  ·next ha=>
   cases h0:hdP l with
   |none=>rw[h0] at h;cases h
   |some e=>
    rw[h0,YO] at h
    cases h1:manyP exK exP r with
    |none=>rw[h1] at h;cases h
    |some a=>
     rw[h1,YO] at h
     cases h2:volsP a.2.length a.2 with
     |none=>rw[h2] at h;cases h
     |some b=>
      rw[h2,YO] at h
      cases h3:manyP B7 ctP b.2 with
      |none=>rw[h3] at h;cases h
      |some c=>
       rw[h3,YO] at h
       cases h4:manyP Bj ctP c.2 with
       |none=>rw[h4] at h;cases h
       |some d=>
        rw[h4] at h
        obtain⟨rfl,hd⟩:=Prod.mk.inj (Zi h)
        have e1:=(Fe (g:=DM) (fun l x=>MQ) (xs:=a.1) (r:=a.2) h1).1
        have e2:=JK (xs:=b.1) (r:=b.2) h2
        have e3:=(Fe (g:=Bu B7) (fun l x=>L8 (by decide)) (xs:=c.1) (r:=c.2) h3).1
        have e4:=(Fe (g:=Bu Bj) (fun l x=>L8 (by decide)) (xs:=d.1) (r:=d.2) h4).1
        rw[hd,Yy] at e4
        rw[e1,e2,e3,e4,MR ha h0]
        simp[Ch]
  ·cases h
theorem Hu {s:By}{p:Po}(h:Eb s=some p):s=AO p:=by
 unfold Eb at h
 cases h1:lnsB s.length s with
 |none=>rw[h1] at h;cases h
 |some ls=>
  rw[h1,YO] at h
  split at h
  ·next q hq=>
   obtain rfl:=Zi h
   rw[DY,<-LP hq]
   exact (Fx h1).1
  ·cases h
def Ar:Po:=⟨0,0,[],[],[],[]⟩
end
section
open Go Go.RowKit Go.BigFrame Tryz
theorem Ma:(prog.info? tI).map (fun i=>(i.zero,i.size,i.bytes))=some (some (.agg #[.string .empty,.slice none 0 0]),2,40):=by kernel_rfl
theorem Mc:(prog.info? tV).map (fun i=>(i.zero,i.size,i.bytes))=some (some (.agg #[.int .i64 0,.string .empty,.bool false,.slice none 0 0]),4,56):=by kernel_rfl
theorem Mb:(prog.info? tP).map (fun i=>(i.zero,i.size,i.bytes))=some (some (.agg #[.int .i64 0,.int .i64 0,.int .i64 0]),3,24):=by kernel_rfl
theorem L9:(prog.info? tE).map (fun i=>(i.zero,i.size,i.bytes))=some (some (.agg #[.int .i64 0,.string .empty]),2,24):=by kernel_rfl
theorem KI:(prog.info? tC).map (fun i=>(i.zero,i.size,i.bytes))=some (some (.agg #[.int .i64 0,.int .i64 0,.string .empty,.int .i64 0]),4,40):=by kernel_rfl
def AV (w:World)(b:Nat)(x0 x1 x2 x3 x4 x5:Value):World:=(((((w.setCell ⟨b,0,none⟩ x0).setCell ⟨b,1,none⟩ x1).setCell ⟨b,2,none⟩ x2).setCell ⟨b,3,none⟩ x3).setCell ⟨b,4,none⟩ x4).setCell ⟨b,5,none⟩ x5
theorem AE.box {B:Nat}{w w':World}{b:Nat}{c:Array Value}{v:Value}{p:Po}(h:AE B w v p)(hg:w.grownBy w' (some b))(hb:Blk w b c 28):AE B w' v p:=by
 have hr:=aa_ hb
 obtain⟨ea,en,ec,va,vn,vc,ra,rn,rc,la,ln,lc,vr,e,h1,h2,h3,h4,h5,h6,h7,h8⟩:=h.out
 exact⟨ea,en,ec,va,vn,vc,ra,rn,rc,la,ln,lc,vr,e,h1.ty hg hr (by decide),h2.ty hg hr (by decide),h3.ty hg hr (by decide),h4.ty hg hr (by decide),h5,h6.imp fun _ _ _ h=>h.ty hg hr (by decide) (by decide),h7,h8⟩
theorem AA {B:Nat}{w0 w:World}{b:Nat}{c0 c1 c2 c3 c4 c5 x0 x1 x2 x3 x4 x5:Value}{p:Po}(h:Blk w b #[c0,c1,c2,c3,c4,c5] 28)(hB:Below B w0 w)(hb:B<=b)(hM:AE B w (.agg #[x0,x1,x2,x3,x4,x5]) p) :
  Blk (AV w b x0 x1 x2 x3 x4 x5) b #[x0,x1,x2,x3,x4,x5] 28∧AE B (AV w b x0 x1 x2 x3 x4 x5) (.agg #[x0,x1,x2,x3,x4,x5]) p∧Below B w0 (AV w b x0 x1 x2 x3 x4 x5):=by
 have hg:w.grownBy (AV w b x0 x1 x2 x3 x4 x5) (some b):=af_ (af_ (af_ (af_ (af_ (af_ (Yh _ _) _ _) _ _) _ _) _ _) _ _) _ _
 refine ⟨?_,hM.box hg h,hB.grown hg (by have:=h.lt;omega) (fun k e=>by cases e;exact hb)⟩
 have:=(((((h.set 0 x0).set 1 x1).set 2 x2).set 3 x3).set 4 x4).set 5 x5
 unfold AV
 simpa using this
theorem Ew (c:Ct):c.cs.length=4:=rfl
theorem Hl:∀ (l:List Ct),∀ u∈l.flatMap Ct.cs,u.oneCell'=true:=by
 intro l u hu
 obtain⟨x,_,hx⟩:=ZL.1 hu
 simp[Ct.cs] at hx
 rcases hx with rfl | rfl | rfl | rfl<;>rfl
theorem Ci {α:Type}{cs:α->List Value}{sz:Nat}(_hsz:∀ y,(cs y).length=sz)(w:World)(x:α)(t:TypeId)(b:Nat)(hb:b=w.heap.size):AX cs sz (w.alloc (.cells (cs x).toArray t)) (some ⟨b,0,none⟩) 1 [x]:=by
 subst hb
 refine ⟨rfl,fun i y hy=>⟨w.heap.size,0,rfl,fun j v hv=>?_⟩⟩
 obtain rfl:i=0:=by have:=(Zb.1 hy).1;simp at this;exact this
 simp at hy
 subst hy
 simp[hv]
theorem Cg {a:Option Addr}{n c B:Nat}(h:∀ ad,a=some ad->B<=ad.block):∀ k,Value.ownBlock (.slice a n c)=some k->B<=k:=by
 intro k hk
 cases a with
 |none=>simp[Value.ownBlock] at hk
 |some ad=>have:=h ad rfl;simp[Value.ownBlock] at hk;omega
theorem Fk (c:VQ):c.cs.length=4:=rfl
theorem Fb (c:IQ):c.cs.length=2:=rfl
theorem FZ (c:Ex):c.cs.length=2:=rfl
theorem I4:∀ (l:List Ex),∀ u∈l.flatMap Ex.cs,u.oneCell'=true:=by
 intro l u hu
 obtain⟨x,_,hx⟩:=ZL.1 hu
 simp[Ex.cs] at hx
 rcases hx with rfl | rfl<;>rfl
structure GI (P:Prop):Prop where
 out:P
theorem Ev (l:List VQ)(r:VQ):Eu (l++[r])=Eu l++(CF r.a).toList:=by
 unfold Eu
 rw[List.filterMap_append]
 cases h:CF r.a<;>simp[h]
theorem Eq (l:List VQ)(r:VQ):DS (l++[r])=DS l++r.irs.filterMap fun x=>CF x.a:=by
 unfold DS
 rw[ZQ]
 simp
theorem EY (l:List IQ)(r:IQ):(l++[r]).filterMap (fun x=>CF x.a)=l.filterMap (fun x=>CF x.a)++(CF r.a).toList:=by
 rw[List.filterMap_append]
 cases h:CF r.a<;>simp[h]
theorem EE {l:List Nat}{o o':Option Nat}{H:Nat}(h:(l++o.toList).Nodup)(hlt:∀ b∈l,b<H)(hf:∀ b,o'=some b->o=some b∨H<=b):(l++o'.toList).Nodup:=by
 have h1:=(Yf.1 h)
 cases o' with
 |none=>simpa using h1.1
 |some b=>
  rw[Option.toList,Yf]
  refine ⟨h1.1,by simp,fun x hx y hy=>?_⟩
  simp at hy
  subst hy
  rcases hf y rfl with rfl | hb
  ·exact h1.2.2 x hx y (by simp)
  ·have:=hlt x hx
   omega
theorem HE {w:World}{B:Nat}:∀ {l:List VQ} {m:List Vo},Al2 (VoR w B) l m->∀ b∈Eu l,b<w.heap.size
 |_,_,.nil,b,hb=>by simp[Eu] at hb
 |r::l,_,.cons hr ht,b,hb=>by
  unfold Eu at hb
  obtain⟨x,hx,e⟩:=YQ.1 hb
  rcases Zn.1 hx with rfl | hx
  ·cases ha:x.a with
   |none=>rw[ha] at e;cases e
   |some ad=>
    rw[ha] at e
    obtain rfl:=Zi e
    exact (hr.rows.block ad ha).2
  ·exact HE ht b (YQ.2 ⟨x,hx,e⟩)
theorem F0 {w:World}{B:Nat}:∀ {l:List IQ} {m:List It},Al2 (ItR w B) l m->∀ b∈l.filterMap (fun x=>CF x.a),b<w.heap.size
 |_,_,.nil,b,hb=>by simp at hb
 |r::l,_,.cons hr ht,b,hb=>by
  obtain⟨x,hx,e⟩:=YQ.1 hb
  rcases Zn.1 hx with rfl | hx
  ·cases ha:x.a with
   |none=>rw[ha] at e;cases e
   |some ad=>
    rw[ha] at e
    obtain rfl:=Zi e
    exact (hr.ps.block ad ha).2
  ·exact F0 ht b (YQ.2 ⟨x,hx,e⟩)
theorem Hs {w:World}{B:Nat}:∀ {l:List VQ} {m:List Vo},Al2 (VoR w B) l m->∀ b∈DS l,b<w.heap.size
 |_,_,.nil,b,hb=>by simp[DS] at hb
 |r::l,_,.cons hr ht,b,hb=>by
  unfold DS at hb
  obtain⟨x,hx,e⟩:=ZL.1 hb
  rcases Zn.1 hx with rfl | hx
  ·exact F0 hr.its b e
  ·exact Hs ht b (ZL.2 ⟨x,hx,e⟩)
theorem Blk.sixM {w:World}{b:Nat}{c0 c1 c2 c3 c4 c5:Value}{t:TypeId}(h:Blk w b #[c0,c1,c2,c3,c4,c5] t):w.cell? ⟨b,0,none⟩=some c0∧w.cell? ⟨b,1,none⟩=some c1∧w.cell? ⟨b,2,none⟩=some c2∧w.cell? ⟨b,3,none⟩=some c3∧w.cell? ⟨b,4,none⟩=some c4∧w.cell? ⟨b,5,none⟩=some c5:=⟨h.cell 0,h.cell 1,h.cell 2,h.cell 3,h.cell 4,h.cell 5⟩
theorem F7 (c:Pt):c.cs.length=3:=rfl
theorem Al2.itsAt {w:World}{B n cap:Nat}{a:Option Addr}{l:List IQ}{m:List It}(h:Ad IQ.cs 2 tI w B a n cap l)(hA:Al2 (ItR w B) l m):Bw B w a n m:=by
 refine ⟨by rw[<-hA.len,h.sl.len],fun i x hx=>?_⟩
 obtain⟨r,hr,hq⟩:=hA.at hx
 obtain⟨b,o,ha,hc⟩:=h.sl.cell i r hr
 have h0:=hc 0 _ rfl
 have h1:=hc 1 _ rfl
 have hs:=h.sf
 refine ⟨b,o,r.a,r.n,r.c,ha,by rw[<-hq.nm];simpa using h0,by simpa using h1,hq.ps.sl,hq.ps.hd,?_,fun ad e=>(hq.ps.block ad e).1,hq.ps.sf,hs⟩
 exact (h.block _ ha).1
theorem AE.at {w:World}{B:Nat}{v:Value}{p:Po}(h:AE B w v p):AW B w v p:=by
 obtain⟨ea,en,ec,va,vn,vc,ra,rn,rc,la,ln,lc,vr,e,h1,h2,h3,h4,_,h6,_,_⟩:=h.out
 refine ⟨ea,en,ec,va,vn,vc,ra,rn,rc,la,ln,lc,e,⟨h1.sl,h1.hd,h1.sf⟩,⟨⟨by rw[<-h6.len,h2.sl.len],fun i x hx=>?_⟩,h2.hd⟩,⟨h3.sl,h3.hd,h3.sf⟩,h4.sl,h4.hd,h4.sf⟩
 obtain⟨r,hr,hq⟩:=h6.at hx
 obtain⟨b,o,ha,hc⟩:=h2.sl.cell i r hr
 have c0:=hc 0 _ rfl
 have c1:=hc 1 _ rfl
 have c2:=hc 2 _ rfl
 have c3:=hc 3 _ rfl
 exact⟨b,o,r.a,r.n,r.c,ha,by rw[<-hq.id];simpa using c0,by rw[<-hq.nm];simpa using c1,by rw[<-hq.fx];simpa using c2,by simpa using c3,hq.its.itsAt hq.rows,hq.rows.hd,(h2.block _ ha).1,h2.sf⟩
end
section
open Go Tryz
theorem Ga {s:By}(h:∀ p,Ap p=true->s≠AO p):Fh s=none:=by
 unfold Fh
 rw[dif_neg]
 rintro⟨p,h1,h2⟩
 exact h p h1 h2
theorem Ht (s:By):Fh s=(Eb s).bind fun p=>if Ap p=true then some p else none:=by
 cases hI:Eb s with
 |none=>
  refine Ga fun p hp e=>?_
  subst e
  rw[F8 (DQ hp)] at hI
  cases hI
 |some p=>
  have hs:=Hu hI
  by_cases hp:Ap p=true
  ·rw[YO,if_pos hp,hs,JA hp]
  ·rw[YO,if_neg hp]
   refine Ga fun q hq e=>?_
   rw[e,F8 (DQ hq)] at hI
   obtain rfl:=Zi hI
   exact hp hq
end
section
open Go Go.RowKit Go.BigFrame Tryz
noncomputable def CM (s:By):Option Po:=if s.length<=60000 then Fh s else none
end
end Go.Proofs.YtkiceokhlceciaaGreatDoor
