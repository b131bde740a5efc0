/- Texts of pools, read and written; what is drawn. -/
import Derived.Test.YteejlahappbalaaGreatDoorU18
set_option maxHeartbeats 20000000
set_option maxRecDepth 100000
namespace Go.Proofs.YteejlahappbalaaGreatDoor
section
open Go Tryz
theorem Hm {c:UInt8}:∀ {a:By},c∉a->cutB c a=none
 |[],_=>rfl
 |x::a,h=>by
  have h1:¬ x=c:=fun e=>h dH
  have h2:c∉a:=fun e=>h dH
  simp[cutB,h1,Hm h2]
def EK (l:By):List By:=A0 l.length l
end
section
open Go Go.RowKit Go.BigFrame Tryz
def HV (c:UInt8)(s:ByteArray):Value:=match cutB c s.data.toList with
 |none=>.tuple #[.string s,.string ⟨#[]⟩,.bool false]
 |some q=>.tuple #[.string (bA q.1),.string (bA q.2),.bool true]
theorem Rl {l:By}{c x:UInt8}{k:Nat}(h:c∉l.take k)(hx:l[k]?=some x)(hc:x≠c):c∉l.take (k+1):=by
 rw[ZK,hx];simp[h];exact fun e=>hc e.symm
theorem Sg {s:ByteArray}{c:UInt8}{k:Nat}(hk:k<s.size)(h:c∉s.data.toList.take k)(hc:s[k]=c):cutB c s.data.toList=some (s.data.toList.take k,s.data.toList.drop (k+1)):=by
 have e:s.data.toList=s.data.toList.take k++c::s.data.toList.drop (k+1):=by
  rw[<-hc,<-fH_ s k hk,YM]
 have e2:=Cy (c:=c) (s.data.toList.drop (k+1)) h;rw[<-e] at e2;exact e2
theorem rx{p:Prop}(h:p:=by rw[qd.out];rfl):p:=h
theorem Eg (c:UInt8)(s:ByteArray)(w:World)(hs:s.size<=2000000) :
  Calls prog 86 #[.string s,.int .u8 c.toNat] w fun e w'=>e=.returned (HV c s)∧Below w.heap.size w w':=by
 obtain⟨R,hR⟩:∃ R,Hid (HV c s=R):=⟨_,rfl⟩;rw[hR.out];go_enter func86,ntmps86;go_wp2_with fail;go_loop [7] (fun ix=>∃ (k:Nat),k<=s.size∧ix=.int .i64 k∧Hid (c∉s.data.toList.take k)) (fun ix=>s.size-(intOf ix).toNat)
 case atStart=>exact⟨0,Zg _,rfl,by show c∉_;simp⟩
 case round=>
  obtain⟨k,hk,rfl,hI⟩:=hrel;by_cases hlt:k<s.size
  ·have hb:s.data.toList[k]?=some s[k]:=by rw[ZI rV];rfl
   by_cases hc:s[k]=c
   ·have qd:Hid (R=.tuple #[.string (s.extract 0 k),.string (s.extract (k+1) s.size),.bool true]):=by
     show _=_;rw[<-hR.out,HV,Sg hlt hI.out hc];simp only[bA];rw[Lib.extract_eq,Lib.extract_eq];have e:(s.data.toList.drop (k+1)).take (s.size-(k+1))=s.data.toList.drop (k+1):=Zk sK;rw[e];simp
    have ha:(s[k].toNat:Int)=c.toNat:=by rw[hc]
    go_wp2_with fail;go_quiet (fail);go_wp2;go_returns;exact⟨rx,Bj _ _⟩
   ·have ha:¬ (s[k].toNat:Int)=c.toNat:=fun e=>hc (UInt8.toNat_inj.1 sH);go_wp2;go_round
    case rel=>exact⟨k+1,sH,sQ,Rl hI.out hb hc⟩
    case measure=>simp[intOf];omega
  ·obtain rfl:k=s.size:=sH;have qd:Hid (R=.tuple #[.string s,.string ⟨#[]⟩,.bool false]):=by
    show _=_;have:=hI.out;rw[Zk sK] at this;rw[<-hR.out,HV,Hm this]
   go_wp2;go_returns;exact⟨rx,Yg _ _⟩
theorem Lh {l:By}{k n:Nat}{x:UInt8}(h:Lib.decFrom 0 (l.take k)=some n)(hx:l[k]?=some x)(h1:48<=x.toNat)(h2:x.toNat<=57):Lib.decFrom 0 (l.take (k+1))=some (n*10+(x.toNat-48)):=by
 refine Lib.decFrom_take l k 0 n x _ h hx ?_;unfold Lib.digitVal;rw[if_pos ⟨h1,h2⟩]
theorem Li {l:By}{k:Nat}{x:UInt8}(hx:l[k]?=some x)(h1:¬ (48<=x.toNat∧x.toNat<=57)):Lib.decFrom 0 l=none:=by
 obtain⟨hk,rfl⟩:=Zb.1 hx;rw[<-YM k l,En,List.drop_eq_getElem_cons hk]
 cases Lib.decFrom 0 (l.take k) with
 |none=>rfl
 |some m=>
  simp only[YO,Lib.decFrom,Lib.digitVal];rw[if_neg h1]
theorem Nr {l:By}{k n:Nat}(h:Lib.decFrom 0 (l.take k)=some n)(hl:l.length<=10):n<10000000000:=by
 have h1:=EP _ 0 n h;have h2:10 ^ (l.take k).length<=10 ^ 10:=Nat.pow_le_pow_right sH sN;have h3:(10:Nat) ^ 10=10000000000:=sJ;omega
theorem IX (t:ByteArray)(w:World)(hs:t.size<=2000000)(hneg:¬ (1<t.size∧∃ h:0<t.size,t[0]=45)) :
  Calls prog 87 #[.string t] w fun e w'=>e=.returned (Gl (numP t.data.toList))∧w'=w:=by
 obtain⟨R,hR⟩:∃ R,Hid (Gl (numP t.data.toList)=R):=⟨_,rfl⟩;rw[hR.out];have hn:Hid (numP t.data.toList=if t.data.toList.length<1∨10<t.data.toList.length∨(t.data.toList.head?=some 48∧1<t.data.toList.length) then none else (Lib.decFrom 0 t.data.toList).map fun (n:Nat)=>(n:Int)):=by
  show _=_;by_cases hh:t.data.toList.head?=some 45
  ·obtain⟨x,l,e⟩:∃ x l,t.data.toList=x::l:=by
    cases hc:t.data.toList with
    |nil=>rw[hc] at hh;cases hh
    |cons x l=>exact⟨x,l,rfl⟩
   have hp:0<t.size:=by rw[Lib.size_eq t,e];simp
   have h0:t[0]=45:=by
    have:=fH_ t 0 hp;rw[YC] at this;rw[this] at hh;exact Zi hh
   have h1:t.size=1:=by
    by_cases h:1<t.size
    ·exact absurd ⟨h,hp,h0⟩ hneg
    ·omega
   have e2:t.data.toList=[45]:=by
    have:=fH_ t 0 hp;rw[YC,h0] at this;rw[this,Ze fp]
   rw[e2];decide
  ·exact IM hh
 have hq:1<t.size->∀ h:0<t.size,¬ (t[0].toNat:Int)=45:=fun h1 h e=>hneg ⟨h1,h,UInt8.toNat_inj.1 sN⟩;clear hneg;go_enter func87,ntmps87;by_cases h1:1<t.size;(all_goals (try have hg:=hq h1 sH));(all_goals clear hq);(all_goals go_upto_region 4 with fail)
 all_goals (
  have he:Hid (t.data.toList.length=t.size):=(Lib.size_eq t).symm
  by_cases hf:t.size<1∨10<t.size
  ·have qd:Hid (R=.tuple #[.int .i64 0,.bool false]):=by
    show _=_
    rw[<-hR.out,hn.out,if_pos (by rw[he.out];omega)];rfl
   rcases hf with hf | hf
   all_goals go_wp2
   all_goals go_returns
   all_goals exact⟨rx,rfl⟩
  ·have hx:0<t.size:=sH
   have hl:t.size<=10:=sH
   clear hf
   have hh:Hid (t.data.toList.head?=some t[0]):=by
    show _=_
    have:=fH_ t 0 hx
    rw[YC] at this
    rw[this];rfl
   by_cases h48:t[0]=48∧1<t.size
   ·have qd:Hid (R=.tuple #[.int .i64 0,.bool false]):=by
     show _=_
     rw[<-hR.out,hn.out,if_pos (by rw[hh.out,he.out,h48.1];simp[h48.2])];rfl
    have ha:(t[0].toNat:Int)=48:=by rw[h48.1];rfl
    have ht:=h48.2
    clear h48
    go_wp2
    all_goals go_returns
    all_goals exact⟨rx,rfl⟩
   ·have ho:Hid (numP t.data.toList=(Lib.decFrom 0 t.data.toList).map fun (n:Nat)=>(n:Int)):=by
     show _=_
     rw[hn.out,if_neg]
     rw[hh.out,he.out]
     rintro (h | h | h)
     ·omega
     ·omega
     ·exact h48 ⟨Zi h.1,h.2⟩
    have ha:¬ (t[0].toNat:Int)=48∨t.size<=1:=by
     by_cases h1:1<t.size
     ·exact .inl fun e=>h48 ⟨UInt8.toNat_inj.1 sN,h1⟩
     ·exact .inr sH
    clear h48 hh hn
    by_cases h480:(t[0].toNat:Int)=48
    all_goals (try have hA:t.size<=1:=by omega)
    all_goals clear ha
    all_goals go_wp2_with fail
    all_goals (
     go_loop [5,6] (fun nv ix=>∃ (k m:Nat),k<=t.size∧ix=.int .i64 k∧nv=.int .i64 m∧m<10000000000∧Hid (Lib.decFrom 0 (t.data.toList.take k)=some m)) (fun _ ix=>t.size-(intOf ix).toNat)
     case atStart=>exact⟨0,0,Zg _,rfl,rfl,sH,rfl⟩
     case round=>
      obtain⟨k,m,hk,rfl,rfl,hm,hI⟩:=hrel
      by_cases hlt:k<t.size
      ·have hb:t.data.toList[k]?=some t[k]:=by rw[ZI rV];rfl
       by_cases hc:48<=t[k].toNat∧t[k].toNat<=57
       ·have hr:Hid (Lib.decFrom 0 (t.data.toList.take (k+1))=some (m*10+(t[k].toNat-48))):=Lh hI.out hb hc.1 hc.2
        have hw:=Nr hr.out (by rw[he.out];exact hl)
        obtain⟨hy,hz⟩:=hc
        have hu:(48:Int)<=t[k].toNat:=sH
        have hv:(t[k].toNat:Int)<=57:=sH
        go_wp2
        go_round
        case rel=>exact⟨k+1,m*10+(t[k].toNat-48),sH,sQ,by congr 1;omega,hw,hr⟩
        case measure=>simp[intOf];omega
       ·have qd:Hid (R=.tuple #[.int .i64 0,.bool false]):=by
         show _=_
         rw[<-hR.out,ho.out,Li hb hc];rfl
        have hj:(t[k].toNat:Int)<48∨57<(t[k].toNat:Int):=sH
        clear hc
        rcases hj with hj | hj
        all_goals go_wp2
        all_goals go_returns
        all_goals exact⟨rx,rfl⟩
      ·obtain rfl:k=t.size:=sH
       have qd:Hid (R=.tuple #[.int .i64 (m:Int),.bool true]):=by
        show _=_
        have:=hI.out
        rw[Zk (by rw[he.out];exact Zd _)] at this
        rw[<-hR.out,ho.out,this];rfl
       go_wp2
       go_returns
       exact⟨rx,rfl⟩))
theorem GE (s:ByteArray)(w:World)(hs:s.size<=2000000) :
  Calls prog 87 #[.string s] w fun e w'=>e=.returned (Gl (numP s.data.toList))∧w'=w:=by
 obtain⟨R,hR⟩:∃ R,Hid (Gl (numP s.data.toList)=R):=⟨_,rfl⟩;rw[hR.out];by_cases hneg:1<s.size∧∃ h:0<s.size,s[0]=45
 ·obtain⟨g1,g0,g2⟩:=hneg;have hg:(s[0].toNat:Int)=45:=by rw[g2];rfl
  obtain⟨t,ht⟩:∃ t,Hid (s.extract 1 s.size=t):=⟨_,rfl⟩;have hq:Hid (s.data.toList=45::t.data.toList):=by
   show _=_;have:=fH_ s 0 g0;rw[YC,g2] at this;rw[<-ht.out,Lib.extract_data,this];simp;exact (Zk sK).symm
  have hn:Hid (numP s.data.toList=if t.data.toList.length<1∨10<t.data.toList.length∨t.data.toList.head?=some 48 then none else (Lib.decFrom 0 t.data.toList).map fun (n:Nat)=>-(n:Int)):=by
   show _=_;rw[hq.out];rfl
  go_enter func87,ntmps87;go_upto_region 4 with fail;rw[ht.out];have hA:t.size<=2000000:=by rw[<-ht.out];simp;omega
  clear ht hq;have ha:Hid (t.data.toList.length=t.size):=(Lib.size_eq t).symm;by_cases he:t.size<1∨10<t.size
  ·have qd:Hid (R=.tuple #[.int .i64 0,.bool false]):=by
    show _=_;rw[<-hR.out,hn.out,if_pos (by rw[ha.out];omega)];rfl
   rcases he with he | he;(all_goals go_wp2);(all_goals go_returns);all_goals exact⟨rx,rfl⟩
  ·have hx:0<t.size:=sH;have hl:t.size<=10:=sH;clear he;have hh:Hid (t.data.toList.head?=some t[0]):=by
    show _=_;have:=fH_ t 0 hx;rw[YC] at this;rw[this];rfl
   by_cases h48:t[0]=48∧True
   ·have qd:Hid (R=.tuple #[.int .i64 0,.bool false]):=by
     show _=_;rw[<-hR.out,hn.out,if_pos (by rw[hh.out,ha.out,h48.1];simp)];rfl
    have hf:(t[0].toNat:Int)=48:=by rw[h48.1];rfl
    have hr:=h48.2;clear h48;go_wp2;(all_goals go_returns);all_goals exact⟨rx,rfl⟩
   ·have ho:Hid (numP s.data.toList=(Lib.decFrom 0 t.data.toList).map fun (n:Nat)=>-(n:Int)):=by
     show _=_;rw[hn.out,if_neg];rw[hh.out,ha.out];rintro (h | h | h)
     ·omega
     ·omega
     ·exact h48 ⟨Zi h,trivial⟩
    have hf:¬ (t[0].toNat:Int)=48:=fun e=>h48 ⟨UInt8.toNat_inj.1 sN,trivial⟩;clear h48 hh hn;skip;go_wp2_with fail
    all_goals (
     go_loop [5,6] (fun nv ix=>∃ (k m:Nat),k<=t.size∧ix=.int .i64 k∧nv=.int .i64 m∧m<10000000000∧Hid (Lib.decFrom 0 (t.data.toList.take k)=some m)) (fun _ ix=>t.size-(intOf ix).toNat)
     case atStart=>exact⟨0,0,Zg _,rfl,rfl,sH,rfl⟩
     case round=>
      obtain⟨k,m,hk,rfl,rfl,hm,hI⟩:=hrel
      by_cases hlt:k<t.size
      ·have hb:t.data.toList[k]?=some t[k]:=by rw[ZI rV];rfl
       by_cases hc:48<=t[k].toNat∧t[k].toNat<=57
       ·have hp:Hid (Lib.decFrom 0 (t.data.toList.take (k+1))=some (m*10+(t[k].toNat-48))):=Lh hI.out hb hc.1 hc.2
        have hw:=Nr hp.out (by rw[ha.out];exact hl)
        obtain⟨hy,hz⟩:=hc
        have hu:(48:Int)<=t[k].toNat:=sH
        have hv:(t[k].toNat:Int)<=57:=sH
        go_wp2
        go_round
        case rel=>exact⟨k+1,m*10+(t[k].toNat-48),sH,sQ,by congr 1;omega,hw,hp⟩
        case measure=>simp[intOf];omega
       ·have qd:Hid (R=.tuple #[.int .i64 0,.bool false]):=by
         show _=_
         rw[<-hR.out,ho.out,Li hb hc];rfl
        have hj:(t[k].toNat:Int)<48∨57<(t[k].toNat:Int):=sH
        clear hc
        rcases hj with hj | hj
        all_goals go_wp2
        all_goals go_returns
        all_goals exact⟨rx,rfl⟩
      ·obtain rfl:k=t.size:=sH
       have qd:Hid (R=.tuple #[.int .i64 (-(m:Int)),.bool true]):=by
        show _=_
        have:=hI.out
        rw[Zk (by rw[ha.out];exact Zd _)] at this
        rw[<-hR.out,ho.out,this];rfl
       go_wp2
       go_returns
       exact⟨rx,rfl⟩)
 ·rw[<-hR.out];exact IX s w hs hneg
theorem NY (x:ByteArray):[Value.string x].length=1:=rfl
theorem NZ:∀ (l:List ByteArray),∀ u∈l.flatMap tcs,u.oneCell'=true:=by
 intro l u hu;obtain⟨x,_,hx⟩:=ZL.1 hu;simp at hx;subst hx;rfl
theorem NS (w:World)(x:ByteArray)(t:TypeId)(b:Nat)(hb:b=w.heap.size):AH tcs 1 (w.alloc (.cells #[.string x] t)) (some ⟨b,0,none⟩) 1 [x]:=by
 subst hb;refine ⟨rfl,fun i y hy=>⟨w.heap.size,0,rfl,fun j v hv=>?_⟩⟩;obtain rfl:i=0:=rl;simp at hy;subst hy;obtain rfl:j=0:=by have:=(Zb.1 hv).1;simp at this;exact this
 simp at hv;subst hv;simp
theorem UR:(prog.info? 9).map (fun i=>(i.zero,i.size,i.bytes))=some (some (.string .empty),1,16):=by kernel_rfl
theorem Nb {w:World}{a:Option Addr}{n:Nat}{l:List ByteArray}(h:AH tcs 1 w a n l){k:Nat}(hk:k<n):∃ b o s,a=some ⟨b,o,none⟩∧l[k]?=some s∧w.cell? ⟨b,o+k,none⟩=some (.string s):=by
 have hl:k<l.length:=rB;have hx:l[k]?=some l[k]:=oA;obtain⟨b,o,ha,hc⟩:=h.cell k _ hx;exact⟨b,o,l[k],ha,hx,by have:=hc 0 _ rfl;simpa using this⟩
theorem mE{p:Prop}(h:p:=by
 obtain⟨h1,_⟩:=Bq (a:=q.1) (b:=q.2) hc
 rw[h1];simp;omega):p:=h
theorem J8:∀ (n k k':Nat) (l:By),l.length<=n->l.length<=k->l.length<=k'->A0 k l=A0 k' l
 |0,k,k',l,h,_,_=>by
  obtain rfl:=Zt (Nat.le_zero.1 h)
  cases k<;>cases k'<;>rfl
 |n+1,k,k',l,h,h1,h2=>by
  cases hc:cutB 32 l with
  |none=>
   have:∀ k,A0 k l=[l]:=fun k=>by
    cases k with
    |zero=>rfl
    |succ k=>rw[A0,hc]
   rw[this,this]
  |some q=>
   have hq:q.2.length<l.length:=by
    exact mE
   obtain⟨k,rfl⟩:∃ j,k=j+1:=⟨k-1,sH⟩;obtain⟨k',rfl⟩:∃ j,k'=j+1:=⟨k'-1,sH⟩;rw[A0,A0,hc];simp only;rw[J8 n k k' q.2 sH sH sH]
theorem Pa {l:By}(h:cutB 32 l=none):EK l=[l]:=by
 unfold EK
 cases l.length with
 |zero=>rfl
 |succ k=>rw[A0,h]
theorem Pb {l:By}{q:By×By}(h:cutB 32 l=some q):EK l=q.1::EK q.2∧q.2.length<l.length:=by
 have hq:q.2.length<l.length:=by
  obtain⟨h1,_⟩:=Bq (a:=q.1) (b:=q.2) h;rw[h1];simp;omega
 refine ⟨?_,hq⟩;unfold EK;obtain⟨k,hk⟩:∃ j,l.length=j+1:=⟨l.length-1,sH⟩;rw[hk,A0,h];simp only;rw[J8 _ k q.2.length q.2 (Zd _) sH (Zd _)]
theorem dC{p:Prop}(h:p:=by unfold HV;rw[hc]):p:=h
theorem KD (s:ByteArray)(w:World)(hs:s.size<=100000) :
  Calls prog 174 #[.string s] w fun e w'=>(∃ a n cap,e=.returned (.slice a n cap)∧n<=100001∧Ac tcs 1 9 w' w.heap.size a n cap ((EK s.data.toList).map bA))∧Below w.heap.size w w':=by
 obtain⟨i0,hk,hn,ho,hp⟩:=info_parts UR;obtain⟨R,hR⟩:∃ R,Hid ((EK s.data.toList).map bA=R):=⟨_,rfl⟩;rw[hR.out];go_enter func174,ntmps174;go_wp2_with fail;go_loopw [0,3,4] (fun sv out mv wr=>∃ (rest:ByteArray) (m:Bool) (acc:List ByteArray) (a:Option Addr) (n cap:Nat),sv=.string rest∧out=.slice a n cap∧mv=.bool m∧n+rest.size<=(if m=true then 100000 else 100001)∧Ac tcs 1 9 wr w.heap.size a n cap acc∧Hid (R=acc++(if m=true then (EK rest.data.toList).map bA else []))∧Below w.heap.size w wr) (fun sv _ mv _=>match sv,mv with | .string r,.bool true=>r.size+1 | _,_=>0)
 case atStart=>exact⟨s,true,[],_,0,0,rfl,rfl,rfl,by simpa using hs,aw_ (Blk.new w #[] 9) (Zd _),by show _=_;rw[<-hR.out];rfl,sM⟩
 case round=>
  obtain⟨rest,m,acc,a,n,cap,rfl,rfl,rfl,hm,hA,hI,hB⟩:=hrel
  cases m with
  |false=>
   have hh:R=acc:=by rw[hI.out];simp
   subst hh;simp only[Zj,if_false] at hm;go_wp2;go_returns;exact⟨⟨a,n,cap,rfl,sH,hA⟩,hB⟩
  |true=>
   simp only[if_true] at hm hI;have hu:=hB.size;go_wp2_with fail;refine (Eg 32 rest _ sH).mono ?_;rintro e w1 ⟨rfl,hb⟩;have ha:=hA.below hb;replace hb:=Aa hB hb;have ht:=hb.size
   cases hc:cutB 32 rest.data.toList with
   |none=>
    have hv:HV 32 rest=.tuple #[.string rest,.string ⟨#[]⟩,.bool false]:=dC;have hf:Hid (R=(acc++[rest])++(if false=true then (EK (⟨#[]⟩:ByteArray).data.toList).map bA else [])):=by
     show _=_;rw[hI.out,Pa hc];simp[Dc]
    rw[hv];clear hv hc hI hA hB;go_wp2_with (at_builtin;refine ag_ rfl (fun K hK=>ay_ _ _ 40 rfl w.heap.size 9 i0 (.string .empty) 16 underlying40 hk hn ho hp rfl sJ NY NZ a n cap _ rfl (ha.alloc _) _ 1 1 [rest] rfl (NS _ _ _ _ dF) (fun ad h=>sV) (fun h=>sY) (n+1) rfl sO sH sN (fun a4 cap4 w4 R4 hj=>hK _ _ ?_)));have he:Below w.heap.size w w4:=Yi sM hj sN (aG_ fun ad hg=>by have:=(ha.block ad hg).1;omega);go_roundw
    case rel=>exact⟨⟨#[]⟩,false,acc++[rest],a4,n+1,cap4,rfl,rfl,rfl,by show n+1+0<=_;simp;omega,R4,hf,he⟩
    case measure=>simp
   |some q=>
    have hv:HV 32 rest=.tuple #[.string (bA q.1),.string (bA q.2),.bool true]:=dC;obtain⟨hl,hq⟩:=Pb hc;have hf:Hid (R=(acc++[bA q.1])++(if true=true then (EK (bA q.2).data.toList).map bA else [])):=by
     show _=_;rw[hI.out,hl];simp[Ak]
    have hr:(bA q.2).size+1<=rest.size:=by
     rw[Lib.size_eq,Lib.size_eq,Ak];omega
    rw[hv];clear hv hc hI hA hB hl hq;generalize bA q.1=one at *;generalize bA q.2=more at *;go_wp2_with (at_builtin;refine ag_ rfl (fun K hK=>ay_ _ _ 40 rfl w.heap.size 9 i0 (.string .empty) 16 underlying40 hk hn ho hp rfl sJ NY NZ a n cap _ rfl (ha.alloc _) _ 1 1 [one] rfl (NS _ _ _ _ dF) (fun ad h=>sV) (fun h=>sY) (n+1) rfl sO sH sN (fun a4 cap4 w4 R4 hj=>hK _ _ ?_)));have he:Below w.heap.size w w4:=Yi sM hj sN (aG_ fun ad hg=>by have:=(ha.block ad hg).1;omega);go_roundw
    case rel=>exact⟨more,true,acc++[one],a4,n+1,cap4,rfl,rfl,rfl,sN,R4,hf,he⟩
    case measure=>simp;omega
def Ox (w:List ByteArray)(i:Nat):Int:=match w[i]? with
 |none=>-1
 |some x=>(numP x.data.toList).getD (-1)
def Mz (w:List ByteArray)(i:Nat):ByteArray:=w[i]?.getD ⟨#[]⟩
theorem pV{p:Prop}(h:p:=by
 go_wp2;go_returns
 exact⟨by rw[zP];rfl,rfl⟩):p:=h
theorem B6 (a:Option Addr)(n cap:Nat)(l:List ByteArray)(i:Nat)(w:World)(h:AH tcs 1 w a n l)(hl:∀ x∈l,x.size<=100000) :
  Calls prog 175 #[.slice a n cap,.int .i64 i] w fun e w'=>e=.returned (.int .i64 (Ox l i))∧w'=w:=by
 obtain⟨R,hR⟩:∃ R,Hid (Ox l i=R):=⟨_,rfl⟩;rw[hR.out];go_enter func175,ntmps175;by_cases hlt:i<n
 ·obtain⟨b,o,x,rfl,hx,c0⟩:=Nb h hlt;have ha:(i:Int)<n:=sH;have hb:=hl x (Zc hx);have hf:Hid (R=(numP x.data.toList).getD (-1)):=by show _=_;rw[<-hR.out,Ox,hx]
  clear h hl hx;go_wp2_with fail;refine (GE x _ sH).mono ?_;rintro e w1 ⟨rfl,rfl⟩
  cases hc:numP x.data.toList with
  |none=>
   have zP:R=-1:=by rw[hf.out,hc];rfl
   rw[show Gl none=.tuple #[.int .i64 0,.bool false] from rfl];exact pV
  |some m=>
   have zP:R=m:=by rw[hf.out,hc];rfl
   rw[show Gl (some m)=.tuple #[.int .i64 m,.bool true] from rfl];exact pV
 ·have ha:¬ (i:Int)<n:=sH;have zP:R=-1:=by rw[<-hR.out,Ox,List.getElem?_eq_none fm]
  exact mP
theorem Er (a:Option Addr)(n cap:Nat)(l:List ByteArray)(i:Nat)(w:World)(h:AH tcs 1 w a n l) :
  Calls prog 176 #[.slice a n cap,.int .i64 i] w fun e w'=>e=.returned (.string (Mz l i))∧w'=w:=by
 obtain⟨R,hR⟩:∃ R,Hid (Mz l i=R):=⟨_,rfl⟩;rw[hR.out];go_enter func176,ntmps176;by_cases hlt:i<n
 ·obtain⟨b,o,x,rfl,hx,c0⟩:=Nb h hlt;have ha:(i:Int)<n:=sH;have zP:R=x:=by rw[<-hR.out,Mz,hx];rfl
  clear h hx;exact pV
 ·have ha:¬ (i:Int)<n:=sH;have zP:R=⟨#[]⟩:=by rw[<-hR.out,Mz,List.getElem?_eq_none fm];rfl
  exact mP
end
section
open Go Tryz
def Gm (w:List By)(i:Nat):Int:=match w[i]? with
 |none=>-1
 |some x=>(numP x).getD (-1)
def Cd (w:List By)(i:Nat):By:=w[i]?.getD []
def GM (l:By):By:=match cutB 32 l with
 |none=>[]
 |some q=>q.2
def FG {α:Type}(f:α->α):List α->List α
 |[]=>[]
 |[x]=>[f x]
 |x::y::l=>x::FG f (y::l)
theorem C0 {α:Type}(f:α->α):∀ (a:List α) (x:α),FG f (a++[x])=a++[f x]
 |[],x=>rfl
 |[y],x=>rfl
 |y::z::a,x=>by
  show y::FG f (z::a++[x])=_
  rw[C0 f (z::a) x];rfl
def ctQ (w:List By):Ct:=⟨⟨Gm w 1,Gm w 2,bA (Cd w 3)⟩,(numP (Cd w 4)).getD 0⟩
def Rt (w:List By):Vo:=⟨Gm w 1,bA (Cd w 2),Cd w 3==[49],[]⟩
def B4 (p:Po)(k:By)(w:List By)(l:By):Po:=
 if k=Cj then {p with size:=Gm w 1,next:=Gm w 2}
 else if k=exK then {p with ex:=p.ex++[⟨Gm w 1,bA (GM (GM l))⟩]}
 else if k=Ei then {p with vs:=p.vs++[Rt w]}
 else if k=BZ then {p with vs:=FG (fun v=>{v with its:=v.its++[⟨bA (Cd w 1),[]⟩]}) p.vs}
 else if k=partK then {p with vs:=FG (fun v=>{v with its:=FG (fun x=>{x with ps:=x.ps++[⟨Gm w 1,Gm w 2,Gm w 3⟩]}) v.its}) p.vs}
 else if k=DK then {p with rf:=p.rf++[ctQ w]}
 else if k=BQ then {p with lt:=p.lt++[ctQ w]}
 else p
def AZ (p:Po)(l:By):Po:=B4 p (Cd (EK l) 0) (EK l) l
theorem Ed (p:Po){l k:By}{r:List By}(h:EK l=k::r):AZ p l=B4 p k (k::r) l:=by
 unfold AZ;rw[h];rfl
theorem Mn:∀ {ws:List By} {k:Nat},ws≠[]->(∀ w∈ws,(32:UInt8)∉w)->ws.length<=k+1->A0 k (joW ws)=ws
 |[],_,h,_,_=>absurd rfl h
 |[a],0,_,_,_=>rfl
 |[a],k+1,_,h,_=>by
  show A0 (k+1) a=_
  rw[A0,Hm (h a sK)]
 |a::b::l,0,_,_,hk=>by simp at hk
 |a::b::l,k+1,_,h,hk=>by
  show A0 (k+1) (a++32::joW (b::l))=_
  rw[A0,Cy _ (h a sK)]
  simp only
  rw[Mn sK (fun w hw=>h w (by simp[Zn.1 hw])) (by simpa using hk)]
theorem NC:∀ (ws:List By),ws.length<=(joW ws).length+1
 |[]=>by simp
 |[a]=>by simp
 |a::b::l=>by
  have:=NC (b::l)
  simp[joW] at this ⊢;omega
theorem Gf {ws:List By}(h:ws≠[])(h2:∀ w∈ws,(32:UInt8)∉w):EK (joW ws)=ws:=Mn h h2 (NC ws)
theorem Ty {a b d:By}(ha:(32:UInt8)∉a)(hb:(32:UInt8)∉b):∃ r,EK (joW [a,b,d])=a::b::r:=by
 unfold EK;obtain⟨k,hk⟩:∃ k,(joW [a,b,d]).length=k+2:=⟨(joW [a,b,d]).length-2,by simp[joW];omega⟩;rw[hk];show ∃ r,A0 (k+2) (a++32::(b++32::d))=_;rw[A0,Cy _ ha];simp only;rw[A0,Cy _ hb];exact⟨_,rfl⟩
theorem Pu {a:By}{b:By}{l:List By}(h:(32:UInt8)∉a):GM (joW (a::b::l))=joW (b::l):=by
 show GM (a++32::joW (b::l))=_;unfold GM;rw[Cy _ h]
theorem DF {w:List By}{i:Nat}{n:Int}(h:w[i]?=some (Lib.itoa n))(hn:AJ n):Gm w i=n:=by
 unfold Gm;rw[h];simp[Bh hn]
theorem Qs (p:Po){a b:Int}(h:AJ a∧AJ b):AZ p (joW [Cj,Lib.itoa a,Lib.itoa b])={p with size:=a,next:=b}:=by
 rw[Ed p (Gf sK (by simp[BW];decide)),B4,if_pos rfl,DF rfl h.1,DF rfl h.2]
theorem Qr (p:Po){e:Ex}(h:AJ e.a):AZ p (Fm e)={p with ex:=p.ex++[e]}:=by
 obtain⟨r,hr⟩:=Ty (a:=exK) (b:=Lib.itoa e.a) (d:=e.d.data.toList) sJ (BW _);unfold Fm;rw[Ed p hr,B4,if_neg sJ,if_pos rfl,DF rfl h,Pu sJ,Pu (BW _)];simp[joW,Dc]
theorem OE (p:Po){v:Vo}(h:AJ v.id)(h2:(32:UInt8)∉v.nm.data.toList):AZ p (joW [Ei,Lib.itoa v.id,v.nm.data.toList,EC v.fx])={p with vs:=p.vs++[{v with its:=[]}]}:=by
 have hf:(32:UInt8)∉EC v.fx:=by cases v.fx<;>decide
 rw[Ed p (Gf sK (by simp[BW,h2,hf];decide)),B4,if_neg sJ,if_neg sJ,if_pos rfl,Rt,DF rfl h];have e:(Cd [Ei,Lib.itoa v.id,v.nm.data.toList,EC v.fx] 3==[49])=v.fx:=by
  show (EC v.fx==[49])=_
  cases v.fx<;>rfl
 rw[e];simp[Cd,Dc]
theorem MF (p:Po){nm:ByteArray}(h2:(32:UInt8)∉nm.data.toList):AZ p (joW [BZ,nm.data.toList])={p with vs:=FG (fun v=>{v with its:=v.its++[⟨nm,[]⟩]}) p.vs}:=by
 rw[Ed p (Gf sK (by simp[h2];decide)),B4,if_neg sJ,if_neg sJ,if_neg sJ,if_pos rfl];simp[Cd,Dc]
theorem MH (p:Po){t:Pt}(h:AJ t.a∧AJ t.f∧AJ t.n):AZ p (HC t)={p with vs:=FG (fun v=>{v with its:=FG (fun x=>{x with ps:=x.ps++[t]}) v.its}) p.vs}:=by
 unfold HC;rw[Ed p (Gf sK (by simp[BW];decide)),B4,if_neg sJ,if_neg sJ,if_neg sJ,if_neg sJ,if_pos rfl,DF rfl h.1,DF rfl h.2.1,DF rfl h.2.2]
theorem PE {wd:By}{c:Ct}(h:AJ c.o.a∧AJ c.o.v∧AJ c.n):ctQ [wd,Lib.itoa c.o.a,Lib.itoa c.o.v,c.o.f.data.toList,Lib.itoa c.n]=c:=by
 unfold ctQ;rw[DF rfl h.1,DF rfl h.2.1];simp[Cd,Dc,Bh h.2.2]
theorem OD (p:Po){c:Ct}(h:AJ c.o.a∧AJ c.o.v∧AJ c.n)(h2:(32:UInt8)∉c.o.f.data.toList):AZ p (BD DK c)={p with rf:=p.rf++[c]}:=by
 unfold BD;rw[Ed p (Gf sK (by simp[BW,h2];decide)),B4,if_neg sJ,if_neg sJ,if_neg sJ,if_neg sJ,if_neg sJ,if_pos rfl,PE h]
theorem MG (p:Po){c:Ct}(h:AJ c.o.a∧AJ c.o.v∧AJ c.n)(h2:(32:UInt8)∉c.o.f.data.toList):AZ p (BD BQ c)={p with lt:=p.lt++[c]}:=by
 unfold BD;rw[Ed p (Gf sK (by simp[BW,h2];decide)),B4,if_neg sJ,if_neg sJ,if_neg sJ,if_neg sJ,if_neg sJ,if_neg sJ,if_pos rfl,PE h]
theorem Nw:∀ {l:List Ex} (p:Po),(∀ e∈l,AJ e.a)->(l.map Fm).foldl AZ p={p with ex:=p.ex++l}
 |[],p,_=>by simp
 |e::l,p,h=>by
  rw[YD,YE,Qr p (h e sK),Nw _ (fun x hx=>h x rv)]
  simp
theorem Lr:∀ {l:List Ct} (p:Po),(∀ c∈l,(AJ c.o.a∧AJ c.o.v∧AJ c.n)∧(32:UInt8)∉c.o.f.data.toList)->(l.map (BD DK)).foldl AZ p={p with rf:=p.rf++l}
 |[],p,_=>by simp
 |e::l,p,h=>by
  rw[YD,YE,OD p (h e sK).1 (h e sK).2,Lr _ (fun x hx=>h x rv)]
  simp
theorem JI:∀ {l:List Ct} (p:Po),(∀ c∈l,(AJ c.o.a∧AJ c.o.v∧AJ c.n)∧(32:UInt8)∉c.o.f.data.toList)->(l.map (BD BQ)).foldl AZ p={p with lt:=p.lt++l}
 |[],p,_=>by simp
 |e::l,p,h=>by
  rw[YD,YE,MG p (h e sK).1 (h e sK).2,JI _ (fun x hx=>h x rv)]
  simp
theorem JJ:∀ {l:List Pt} (p:Po) (vs:List Vo) (v:Vo) (xs:List It) (x:It),(∀ t∈l,AJ t.a∧AJ t.f∧AJ t.n)->(l.map HC).foldl AZ {p with vs:=vs++[{v with its:=xs++[x]}]}={p with vs:=vs++[{v with its:=xs++[{x with ps:=x.ps++l}]}]}
 |[],p,vs,v,xs,x,_=>by simp
 |t::l,p,vs,v,xs,x,h=>by
  rw[YD,YE,MH _ (h t sK)]
  simp only[C0]
  rw[JJ p vs v xs {x with ps:=x.ps++[t]} (fun x hx=>h x rv)]
  simp
theorem JH:∀ {l:List It} (p:Po) (vs:List Vo) (v:Vo) (xs:List It),(∀ x∈l,(32:UInt8)∉x.nm.data.toList∧∀ t∈x.ps,AJ t.a∧AJ t.f∧AJ t.n)->(l.flatMap Ci).foldl AZ {p with vs:=vs++[{v with its:=xs}]}={p with vs:=vs++[{v with its:=xs++l}]}
 |[],p,vs,v,xs,_=>by simp
 |x::l,p,vs,v,xs,h=>by
  obtain⟨h1,h2⟩:=h x sK
  rw[ZF,List.foldl_append,Ci,YE,MF _ h1]
  simp only[C0]
  rw[JJ p vs v xs ⟨x.nm,[]⟩ h2]
  simp only[ZM]
  rw[JH p vs v (xs++[x]) (fun y hy=>h y rN)]
  simp
theorem Ls:∀ {l:List Vo} (p:Po) (vs:List Vo),(∀ v∈l,AJ v.id∧(32:UInt8)∉v.nm.data.toList∧∀ x∈v.its,(32:UInt8)∉x.nm.data.toList∧∀ t∈x.ps,AJ t.a∧AJ t.f∧AJ t.n)->(l.flatMap BA).foldl AZ {p with vs:=vs}={p with vs:=vs++l}
 |[],p,vs,_=>by simp
 |v::l,p,vs,h=>by
  obtain⟨h1,h2,h3⟩:=h v sK
  rw[ZF,List.foldl_append,BA,YE,OE _ h1 h2]
  simp only
  rw[JH p vs v [] h3]
  simp only[ZM]
  rw[Ls p (vs++[v]) (fun y hy=>h y rN)]
  simp
theorem Ou {p:Po}(h:Ih p):(CJ p).foldl AZ Ao=p:=by
 obtain⟨ph,pe,pv,pc⟩:=h;have e:CJ p=joW [Cj,Lib.itoa p.size,Lib.itoa p.next]::(p.ex.map Fm++(p.vs.flatMap BA++(p.rf.map (BD DK)++p.lt.map (BD BQ)))):=by simp[CJ]
 rw[e,YE,Qs _ ph,List.foldl_append,Nw _ (fun x hx=>(pe x hx).1),List.foldl_append];simp only[Ao,ZM];have hv:=Ls (l:=p.vs) ⟨p.size,p.next,p.ex,[],[],[]⟩ [] (fun v hv=>⟨(pv v hv).1,(pv v hv).2.1.1,fun x hx=>⟨((pv v hv).2.2 x hx).1.1,((pv v hv).2.2 x hx).2⟩⟩);simp only[ZM] at hv;rw[hv,List.foldl_append,Lr _ (fun c hc=>⟨(pc c ou).1,(pc c ou).2.1⟩),JI _ (fun c hc=>⟨(pc c ou).1,(pc c ou).2.1⟩)];simp
def IP (s:By):Option Po:=(lnsB s.length s).map fun ls=>ls.foldl AZ Ao
theorem NL {p:Po}(h:Ih p):IP (Ay p)=some p:=by
 unfold IP;rw[LN h];simp[Ou h]
end
section
open Go Go.RowKit Go.BigFrame Tryz
theorem FA (ws:List By)(i:Nat):Ox (ws.map bA) i=Gm ws i:=by
 unfold Ox Gm;rw[List.getElem?_map]
 cases ws[i]? with
 |none=>rfl
 |some x=>simp[Ak]
theorem Iw (ws:List By)(i:Nat):Mz (ws.map bA) i=bA (Cd ws i):=by
 unfold Mz Cd;rw[List.getElem?_map]
 cases ws[i]? with
 |none=>rfl
 |some x=>rfl
structure Ka (K:Nat)(p:Po):Prop where
 ex:p.ex.length<=K
 vs:p.vs.length<=K
 its:∀ v∈p.vs,v.its.length<=K∧∀ x∈v.its,x.ps.length<=K
 rf:p.rf.length<=K
 lt:p.lt.length<=K
theorem EG {B:Nat}{w0 w:World}{b:Nat}{c:Array Value}{v:Value}{p:Po}(h:Blk w b c 33)(hB:Below B w0 w)(hb:B<=b)(hM:AK B w v p)(i:Nat)(x:Value) :
  Blk (w.setCell ⟨b,i,none⟩ x) b (c.setIfInBounds i x) 33∧AK B (w.setCell ⟨b,i,none⟩ x) v p∧Below B w0 (w.setCell ⟨b,i,none⟩ x)∧w.grownBy (w.setCell ⟨b,i,none⟩ x) (some b):=by
 have hg:w.grownBy (w.setCell ⟨b,i,none⟩ x) (some b):=af_ (Yh _ _) _ _;exact⟨h.set i x,hM.box hg h,hB.grown hg dV (fun k e=>by cases e;exact hb),hg⟩
theorem AK.nums {B:Nat}{w:World}{p:Po}{a b a' b':Int}{x2 x3 x4 x5:Value}(h:AK B w (.agg #[.int .i64 a,.int .i64 b,x2,x3,x4,x5]) p):AK B w (.agg #[.int .i64 a',.int .i64 b',x2,x3,x4,x5]) {p with size:=a',next:=b'}:=by
 obtain⟨ea,en,ec,va,vn,vc,ra,rn,rc,la,ln,lc,vr,e,h1,h2,h3,h4,h5,h6,h7,h8⟩:=h.out
 cases e;exact⟨ea,en,ec,va,vn,vc,ra,rn,rc,la,ln,lc,vr,rfl,h1,h2,h3,h4,h5,h6,h7,h8⟩
theorem cbx {w:World}{b:Nat}{c0 c1 c2 c3:Value}{t:TypeId}(h:Blk w b #[c0,c1,c2,c3] t):w.cell? ⟨b,0,none⟩=some c0∧w.cell? ⟨b,1,none⟩=some c1∧w.cell? ⟨b,2,none⟩=some c2∧w.cell? ⟨b,3,none⟩=some c3:=⟨h.cell 0,h.cell 1,h.cell 2,h.cell 3⟩
theorem NH {a:Option Addr}{n c b:Nat}(h:∀ ad,a=some ad->ad.block≠b):some b≠Value.ownBlock (.slice a n c):=by
 exact mN
theorem OZ (vr:List VQ)(i:Int)(t:ByteArray)(b:Bool):FT (vr++[⟨i,t,b,none,0,0,[]⟩])=FT vr:=by
 unfold FT;simp[Di]
theorem QE (vr:List VQ)(i:Int)(t:ByteArray)(b:Bool):EX (vr++[⟨i,t,b,none,0,0,[]⟩])=EX vr:=by
 unfold EX;simp
theorem Al2.lastL {α β:Type}{R:α->β->Prop}{x:α}:∀ {l:List α} {m:List β},Al2 R (l++[x]) m->∃ m' y,m=m'++[y]∧Al2 R l m'∧R x y
 |[],_,h=>by
  cases h with
  |cons hr ht=>cases ht;exact⟨[],_,rfl,.nil,hr⟩
 |z::l,_,h=>by
  cases h with
  |cons hr ht=>
   obtain⟨m',y,rfl,h1,h2⟩:=Al2.lastL ht
   exact⟨_::m',y,rfl,.cons hr h1,h2⟩
theorem Le (s:ByteArray):∃ x y,HV 32 s=.tuple #[x,.string (bA (GM s.data.toList)),y]:=by
 unfold HV GM
 cases cutB 32 s.data.toList with
 |none=>exact⟨_,_,rfl⟩
 |some q=>exact⟨_,_,rfl⟩
theorem KY (s:ByteArray):(bA (GM s.data.toList)).size<=s.size:=by
 rw[Lib.size_eq,Ak,Lib.size_eq s];unfold GM
 cases hc:cutB 32 s.data.toList with
 |none=>simp
 |some q=>
  exact mE
theorem EO {l:List Nat}{o:Option Nat}{b:Nat}(h:(l++o.toList).Nodup)(hb:b∈l):o≠some b:=fun e=>by
 subst e
 exact (Yf.1 h).2.2 b hb b sK rfl
theorem H8 {a:Option Addr}{n c b:Nat}(h:Di a≠some b):some b≠Value.ownBlock (.slice a n c):=by
 cases a with
 |none=>simp[Value.ownBlock]
 |some ad=>simp[Di] at h;simp[Value.ownBlock];omega
theorem VoR.offI {w w':World}{B:Nat}{row:Option Nat}{r:VQ}{v:Vo}(h:VoR w B r v)(hg:w.grownBy w' row)(hr:BC w row tI)(hne:∀ ad,r.a=some ad->some ad.block≠row):VoR w' B r v:=
 ⟨h.id,h.nm,h.fx,h.rows.off hg hne,h.its.imp fun _ _ _ h=>h.ty hg hr sJ⟩
theorem VoR.offP {w w':World}{B:Nat}{row:Option Nat}{r:VQ}{v:Vo}(h:VoR w B r v)(hg:w.grownBy w' row)(hr:BC w row tP)(hne:∀ x∈r.irs,∀ ad,x.a=some ad->some ad.block≠row):VoR w' B r v:=
 ⟨h.id,h.nm,h.fx,h.rows.ty hg hr sJ,h.its.imp fun x hx _ h=>⟨h.nm,h.ps.off hg (hne x hx)⟩⟩
theorem L8 {α:Type}(l:List α)(x y:α):(l++[x]).set l.length y=l++[y]:=by simp
theorem Rw {w:World}{B n c:Nat}{a:Option Addr}{l:List VQ}{r r':VQ}(h:Ac VQ.cs 4 tV w B a n c (l++[r]))(he:r'.cs=r.cs):Ac VQ.cs 4 tV w B a n c (l++[r']):=by
 refine ⟨⟨by have:=h.sl.len;simpa using this,fun i x hx=>?_⟩,?_⟩
 ·rcases Nat.lt_or_ge i l.length with hi | hi
  ·rw[ZD hi] at hx;exact h.sl.cell i x (by rw[ZD hi];exact hx)
  ·rw[Zv hi] at hx;have h0:i-l.length=0:=by have:=(Zb.1 hx).1;simp at this;omega
   rw[h0] at hx;obtain rfl:r'=x:=oz;rw[he];exact h.sl.cell i r (by rw[Zv hi,h0];rfl)
 ·rcases h.own with h0 | ⟨b,ha,hB,h1,h2,k,hk,h3,h4⟩
  ·exact .inl h0
  ·refine .inr ⟨b,ha,hB,h1,h2,k,hk,h3,?_⟩;rw[h4];simp[he]
theorem mem_modL {α:Type}{f:α->α}:∀ {l:List α} {y:α},y∈FG f l->y∈l∨∃ x∈l,y=f x
 |[],y,h=>by simp[FG] at h
 |[a],y,h=>by
  simp[FG] at h
  exact .inr ⟨a,sK,h⟩
 |a::b::l,y,h=>by
  rw[FG] at h
  rcases Zn.1 h with rfl | h
  ·exact .inl sK
  ·rcases mem_modL (l:=b::l) h with h | ⟨x,hx,e⟩
   ·exact .inl (ZY _ h)
   ·exact .inr ⟨x,ZY _ hx,e⟩
theorem GZ {α:Type}(f:α->α):∀ (l:List α),(FG f l).length=l.length
 |[]=>rfl
 |[a]=>rfl
 |a::b::l=>by rw[FG];simp[GZ f (b::l)]
structure Oe (S:Nat)(p:Po):Prop where
 ex:∀ e∈p.ex,e.d.size<=S
 vs:∀ v∈p.vs,v.nm.size<=S∧∀ x∈v.its,x.nm.size<=S
 rf:∀ c∈p.rf,c.o.f.size<=S
 lt:∀ c∈p.lt,c.o.f.size<=S
theorem EN (l:By):(bA l).size=l.length:=by rw[Lib.size_eq,Ak]
theorem Ry (l:By)(i:Nat):(Cd (EK l) i).length<=l.length:=by
 unfold Cd
 cases h:(EK l)[i]? with
 |none=>simp
 |some x=>exact HK x (Zc h)
theorem Ni (l:By):(GM l).length<=l.length:=by
 have:=KY (bA l);rw[EN,Ak,EN] at this;exact this
theorem Ka.line {K:Nat}{p:Po}(h:Ka K p)(l:By):Ka (K+1) (AZ p l):=by
 have h0:Ka (K+1) p:=⟨Nat.le_succ_of_le h.ex,Nat.le_succ_of_le h.vs,fun v hv=>⟨Nat.le_succ_of_le (h.its v hv).1,fun x hx=>Nat.le_succ_of_le ((h.its v hv).2 x hx)⟩,Nat.le_succ_of_le h.rf,Nat.le_succ_of_le h.lt⟩;unfold AZ B4;split
 ·exact⟨h0.ex,h0.vs,h0.its,h0.rf,h0.lt⟩
 split
 ·exact⟨by simpa using h.ex,h0.vs,h0.its,h0.rf,h0.lt⟩
 split
 ·refine ⟨h0.ex,by simpa using h.vs,fun v hv=>?_,h0.rf,h0.lt⟩;rcases Zs.1 hv with hv | hv
  ·exact h0.its v hv
  ·rw[YP.1 hv,Rt];exact⟨sK,fun x hx=>by simp at hx⟩
 split
 ·refine ⟨h0.ex,by simpa [GZ] using h0.vs,fun v hv=>?_,h0.rf,h0.lt⟩;rcases mem_modL hv with hv | ⟨u,hu,rfl⟩
  ·exact h0.its v hv
  ·refine ⟨by simpa using (h.its u hu).1,fun x hx=>?_⟩;rcases Zs.1 hx with hx | hx
   ·exact (h0.its u hu).2 x hx
   ·rw[YP.1 hx];simp
 split
 ·refine ⟨h0.ex,by simpa [GZ] using h0.vs,fun v hv=>?_,h0.rf,h0.lt⟩;rcases mem_modL hv with hv | ⟨u,hu,rfl⟩
  ·exact h0.its v hv
  ·refine ⟨by simpa [GZ] using (h0.its u hu).1,fun x hx=>?_⟩;rcases mem_modL hx with hx | ⟨y,hy,rfl⟩
   ·exact (h0.its u hu).2 x hx
   ·simpa using (h.its u hu).2 y hy
 split
 ·exact⟨h0.ex,h0.vs,h0.its,by simpa using h.rf,h0.lt⟩
 split
 ·exact⟨h0.ex,h0.vs,h0.its,h0.rf,by simpa using h.lt⟩
 exact h0
theorem Oe.line {S:Nat}{p:Po}(h:Oe S p)(l:By)(hl:l.length<=S):Oe S (AZ p l):=by
 have hw:∀ i,(bA (Cd (EK l) i)).size<=S:=fun i=>by rw[EN];exact Zl (Ry l i) hl
 have hb:(bA (GM (GM l))).size<=S:=by rw[EN];exact Zl (Ni _) (Zl (Ni l) hl)
 unfold AZ B4;split
 ·exact⟨h.ex,h.vs,h.rf,h.lt⟩
 split
 ·refine ⟨fun e he=>?_,h.vs,h.rf,h.lt⟩;rcases Zs.1 he with he | he
  ·exact h.ex e he
  ·rw[YP.1 he];exact hb
 split
 ·refine ⟨h.ex,fun v hv=>?_,h.rf,h.lt⟩;rcases Zs.1 hv with hv | hv
  ·exact h.vs v hv
  ·rw[YP.1 hv,Rt];exact⟨hw 2,fun x hx=>by simp at hx⟩
 split
 ·refine ⟨h.ex,fun v hv=>?_,h.rf,h.lt⟩;rcases mem_modL hv with hv | ⟨u,hu,rfl⟩
  ·exact h.vs v hv
  ·refine ⟨(h.vs u hu).1,fun x hx=>?_⟩;rcases Zs.1 hx with hx | hx
   ·exact (h.vs u hu).2 x hx
   ·rw[YP.1 hx];exact hw 1
 split
 ·refine ⟨h.ex,fun v hv=>?_,h.rf,h.lt⟩;rcases mem_modL hv with hv | ⟨u,hu,rfl⟩
  ·exact h.vs v hv
  ·refine ⟨(h.vs u hu).1,fun x hx=>?_⟩;rcases mem_modL hx with hx | ⟨y,hy,rfl⟩
   ·exact (h.vs u hu).2 x hx
   ·exact (h.vs u hu).2 y hy
 split
 ·refine ⟨h.ex,h.vs,fun c hc=>?_,h.lt⟩;rcases Zs.1 hc with hc | hc
  ·exact h.rf c hc
  ·rw[YP.1 hc,ctQ];exact hw 3
 split
 ·refine ⟨h.ex,h.vs,h.rf,fun c hc=>?_⟩;rcases Zs.1 hc with hc | hc
  ·exact h.lt c hc
  ·rw[YP.1 hc,ctQ];exact hw 3
 exact h
theorem rI{p:Prop}(h:p:=by simp[Ao]):p:=h
theorem JD:Ka 0 Ao∧Oe 60000 Ao:=
 ⟨⟨rI,rI,fun v hv=>by simp[Ao] at hv,rI,rI⟩,⟨fun v hv=>by simp[Ao] at hv,fun v hv=>by simp[Ao] at hv,fun v hv=>by simp[Ao] at hv,fun v hv=>by simp[Ao] at hv⟩⟩
theorem Ka.dimP {K:Nat}{p:Po}(h:Ka K p)(hK:K<=60000)(hs:Oe 60000 p):A7 p:=
 ⟨by have:=h.ex;omega,fun e he=>by have:=hs.ex e he;omega,by have:=h.vs;omega,
  fun v hv=>⟨by have:=(hs.vs v hv).1;omega,by have:=(h.its v hv).1;omega,fun x hx=>⟨by have:=(hs.vs v hv).2 x hx;omega,by have:=(h.its v hv).2 x hx;omega⟩⟩,
  by have:=h.rf;omega,fun c hc=>by have:=hs.rf c hc;omega,dV,fun c hc=>by have:=hs.lt c hc;omega⟩
end
section
open Go Tryz
theorem MZ {p:Po}(h:B9 p≠⟨#[]⟩):Ai p=true∧B9 p=bA (Ay p):=by
 unfold B9 at h ⊢;split
 ·next hp=>exact⟨hp,rfl⟩
 ·next hp=>rw[if_neg hp] at h;exact absurd rfl h
theorem NK (s:ByteArray)(hs:s.data.toList≠[]):Ha s.data.toList=(IP s.data.toList).bind fun p=>if B9 p=s then some p else none:=by
 have ha:s≠⟨#[]⟩:=fun e=>hs (by rw[e])
 cases hM:IP s.data.toList with
 |none=>
  refine Ie fun p hp e=>?_;rw[e,NL (EU hp)] at hM
  cases hM
 |some p=>
  rw[YO];by_cases hp:B9 p=s
  ·obtain⟨h1,h2⟩:=MZ (p:=p) (by rw[hp];exact ha);rw[if_pos hp,<-hp,h2,Ak,NM h1]
  ·rw[if_neg hp];refine Ie fun q hq e=>?_;rw[e,NL (EU hq)] at hM;obtain rfl:=Zi hM;refine hp ?_;unfold B9;rw[if_pos hq,<-e]
end
section
open Go Go.RowKit Go.BigFrame Tryz
def LK (vr:List VQ):Int:=match vr.getLast? with
 |none=>-1
 |some r=>(r.n:Int)-1
theorem Mm {w:World}{B n c i:Nat}{a:Option Addr}{l:List VQ}{r:VQ}(h:Ac VQ.cs 4 tV w B a n c l)(hi:l[i]?=some r):∃ b,a=some ⟨b,0,none⟩∧B<=b∧w.cell? ⟨b,i*4+3,none⟩=some (.slice r.a r.n r.c):=by
 obtain⟨b,o,ha,hc⟩:=h.sl.cell i r hi;rcases h.own with⟨h0,_⟩ | ⟨b',hb,hB,_⟩
 ·rw[h0] at ha;cases ha
 ·rw[hb] at ha
  cases ha;exact⟨b,hb,hB,by have:=hc 3 _ rfl;simpa using this⟩
theorem TH {w:World}{B n c i:Nat}{a:Option Addr}{l:List IQ}{r:IQ}(h:Ac IQ.cs 2 tI w B a n c l)(hi:l[i]?=some r):∃ b,a=some ⟨b,0,none⟩∧B<=b∧w.cell? ⟨b,i*2+1,none⟩=some (.slice r.a r.n r.c):=by
 obtain⟨b,o,ha,hc⟩:=h.sl.cell i r hi;rcases h.own with⟨h0,_⟩ | ⟨b',hb,hB,_⟩
 ·rw[h0] at ha;cases ha
 ·rw[hb] at ha
  cases ha;exact⟨b,hb,hB,by have:=hc 1 _ rfl;simpa using this⟩
theorem F0 {α:Type}{l:List α}{n:Nat}(h:l.length=n+1):∃ l' x,l=l'++[x]∧l'.length=n:=by
 have ha:l≠[]:=fun e=>by subst e;simp at h
 refine ⟨l.dropLast,l.getLast ha,(List.dropLast_concat_getLast ha).symm,dh⟩
theorem lw{p:Prop}(h:p:=by
 refine YW (results_cell_row rfl _ W8 (w.heap.size+1) _ _ _ _ rfl E8 underlying33 rfl sI) rfl ?_
 exact⟨⟨_,rfl,by rw[hP.out];exact M8⟩,qB⟩):p:=h
theorem mH{p:Prop}(h:p:=by
 cases ha:a4 with
 |none=>rw[ha] at e;cases e
 |some ad=>
  rw[ha] at e;obtain rfl:=Zi e;rcases zH ad ha with⟨ad0,e0,q0⟩ | q0
  ·exact .inl (by rw[e0];exact congrArg some q0)
  ·exact .inr q0):p:=h
theorem sX{p:Prop}(h:p:=by rw[<-ze,e];rfl):p:=h
end
end Go.Proofs.YteejlahappbalaaGreatDoor
