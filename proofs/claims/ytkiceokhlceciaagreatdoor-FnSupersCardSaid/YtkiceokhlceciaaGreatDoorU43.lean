/- Texts of pools, read and written; what is drawn. -/
import Derived.Test.YtkiceokhlceciaaGreatDoorU32
import Derived.Test.YtkiceokhlceciaaGreatDoorU33
import Derived.Test.YtkiceokhlceciaaGreatDoorU34
set_option maxHeartbeats 20000000
set_option maxRecDepth 100000
namespace Go.Proofs.YtkiceokhlceciaaGreatDoor
section
open Go Tryz
theorem Fr {c:UInt8}:∀ {a:By},c∉a->cutB c a=none
 |[],_=>rfl
 |x::a,h=>by
  have h1:¬ x=c:=fun e=>h (by simp[e])
  have h2:c∉a:=fun e=>h (by simp[e])
  simp[cutB,h1,Fr h2]
def Cm (l:By):List By:=A0 l.length l
end
section
open Go Go.RowKit Go.BigFrame Tryz
def EP (c:UInt8)(s:ByteArray):Value:=match cutB c s.data.toList with
 |none=>.tuple #[.string s,.string ⟨#[]⟩,.bool false]
 |some q=>.tuple #[.string (bA q.1),.string (bA q.2),.bool true]
theorem K8 {l:By}{c x:UInt8}{k:Nat}(h:c∉l.take k)(hx:l[k]?=some x)(hc:x≠c):c∉l.take (k+1):=by
 rw[ZK,hx]
 simp[h]
 exact fun e=>hc e.symm
theorem Ly {s:ByteArray}{c:UInt8}{k:Nat}(hk:k<s.size)(h:c∉s.data.toList.take k)(hc:s[k]=c):cutB c s.data.toList=some (s.data.toList.take k,s.data.toList.drop (k+1)):=by
 have e:s.data.toList=s.data.toList.take k++c::s.data.toList.drop (k+1):=by
  rw[<-hc,<-fH_ s k hk,YM]
 have e2:=Ca (c:=c) (s.data.toList.drop (k+1)) h
 rw[<-e] at e2
 exact e2
theorem Dg (c:UInt8)(s:ByteArray)(w:World)(hs:s.size<=2000000) :
  Calls prog 30 #[.string s,.int .u8 c.toNat] w fun e w'=>e=.returned (EP c s)∧Below w.heap.size w w':=by
 obtain⟨R,hR⟩:∃ R,Hid (EP c s=R):=⟨_,rfl⟩
 rw[hR.out]
 go_enter func30,ntmps30
 go_wp2_with fail
 go_loop [7] (fun ix=>∃ (k:Nat),k<=s.size∧ix=.int .i64 k∧Hid (c∉s.data.toList.take k)) (fun ix=>s.size-(intOf ix).toNat)
 case atStart=>exact⟨0,Zg _,rfl,by show c∉_;simp⟩
 case round=>
  obtain⟨k,hk,rfl,hI⟩:=hrel
  by_cases hlt:k<s.size
  ·have hb:s.data.toList[k]?=some s[k]:=by rw[ZI (by simpa using hlt)];rfl
   by_cases hc:s[k]=c
   ·have ha:Hid (R=.tuple #[.string (s.extract 0 k),.string (s.extract (k+1) s.size),.bool true]):=by
     show _=_
     rw[<-hR.out,EP,Ly hlt hI.out hc]
     simp only[bA]
     rw[Lib.extract_eq,Lib.extract_eq]
     have e:(s.data.toList.drop (k+1)).take (s.size-(k+1))=s.data.toList.drop (k+1):=Zk (by simp)
     rw[e]
     simp
    have he:(s[k].toNat:Int)=c.toNat:=by rw[hc]
    go_wp2_with fail
    go_quiet (fail)
    go_wp2
    go_returns
    exact⟨by rw[ha.out];rfl,Bi _ _⟩
   ·have he:¬ (s[k].toNat:Int)=c.toNat:=fun e=>hc (UInt8.toNat_inj.1 (by omega))
    go_wp2
    go_round
    case rel=>exact⟨k+1,by omega,by go_num,K8 hI.out hb hc⟩
    case measure=>simp[intOf];omega
  ·obtain rfl:k=s.size:=by omega
   have ha:Hid (R=.tuple #[.string s,.string ⟨#[]⟩,.bool false]):=by
    show _=_
    have:=hI.out
    rw[Zk (by simp)] at this
    rw[<-hR.out,EP,Fr this]
   go_wp2
   go_returns
   exact⟨by rw[ha.out];rfl,Yg _ _⟩
theorem HR {l:By}{k n:Nat}{x:UInt8}(h:Lib.decFrom 0 (l.take k)=some n)(hx:l[k]?=some x)(h1:48<=x.toNat)(h2:x.toNat<=57):Lib.decFrom 0 (l.take (k+1))=some (n*10+(x.toNat-48)):=by
 refine Lib.decFrom_take l k 0 n x _ h hx ?_
 unfold Lib.digitVal
 rw[if_pos ⟨h1,h2⟩]
theorem HS {l:By}{k:Nat}{x:UInt8}(hx:l[k]?=some x)(h1:¬ (48<=x.toNat∧x.toNat<=57)):Lib.decFrom 0 l=none:=by
 obtain⟨hk,rfl⟩:=Zb.1 hx
 rw[<-YM k l,Dj,List.drop_eq_getElem_cons hk]
 cases Lib.decFrom 0 (l.take k) with
 |none=>rfl
 |some m=>
  simp only[YO,Lib.decFrom,Lib.digitVal]
  rw[if_neg h1]
theorem I3 {l:By}{k n:Nat}(h:Lib.decFrom 0 (l.take k)=some n)(hl:l.length<=10):n<10000000000:=by
 have h1:=DJ _ 0 n h
 have h2:10 ^ (l.take k).length<=10 ^ 10:=Nat.pow_le_pow_right (by omega) (by simp;omega)
 have h3:(10:Nat) ^ 10=10000000000:=by decide
 omega
theorem Gt (t:ByteArray)(w:World)(hs:t.size<=2000000)(hneg:¬ (1<t.size∧∃ h:0<t.size,t[0]=45)) :
  Calls prog 31 #[.string t] w fun e w'=>e=.returned (Dz (numP t.data.toList))∧w'=w:=by
 obtain⟨R,hR⟩:∃ R,Hid (Dz (numP t.data.toList)=R):=⟨_,rfl⟩
 rw[hR.out]
 have hn:Hid (numP t.data.toList=if t.data.toList.length<1∨10<t.data.toList.length∨(t.data.toList.head?=some 48∧1<t.data.toList.length) then none else (Lib.decFrom 0 t.data.toList).map fun (n:Nat)=>(n:Int)):=by
  show _=_
  by_cases hh:t.data.toList.head?=some 45
  ·obtain⟨x,l,e⟩:∃ x l,t.data.toList=x::l:=by
    cases hc:t.data.toList with
    |nil=>rw[hc] at hh;cases hh
    |cons x l=>exact⟨x,l,rfl⟩
   have hp:0<t.size:=by rw[Lib.size_eq t,e];simp
   have h0:t[0]=45:=by
    have:=fH_ t 0 hp
    rw[YC] at this
    rw[this] at hh
    exact Zi hh
   have h1:t.size=1:=by
    by_cases h:1<t.size
    ·exact absurd ⟨h,hp,h0⟩ hneg
    ·omega
   have e2:t.data.toList=[45]:=by
    have:=fH_ t 0 hp
    rw[YC,h0] at this
    rw[this,Ze (by rw[<-Lib.size_eq];omega)]
   rw[e2]
   decide
  ·exact Gq hh
 have hr:1<t.size->∀ h:0<t.size,¬ (t[0].toNat:Int)=45:=fun h1 h e=>hneg ⟨h1,h,UInt8.toNat_inj.1 (by simp;omega)⟩
 clear hneg
 go_enter func31,ntmps31
 by_cases h1:1<t.size
 all_goals (try have hg:=hr h1 (by omega))
 all_goals clear hr
 all_goals go_upto_region 4 with fail
 all_goals (
  have hf:Hid (t.data.toList.length=t.size):=(Lib.size_eq t).symm
  by_cases hj:t.size<1∨10<t.size
  ·have ha:Hid (R=.tuple #[.int .i64 0,.bool false]):=by
    show _=_
    rw[<-hR.out,hn.out,if_pos (by rw[hf.out];omega)];rfl
   rcases hj with hj | hj
   all_goals go_wp2
   all_goals go_returns
   all_goals exact⟨by rw[ha.out];rfl,rfl⟩
  ·have hy:0<t.size:=by omega
   have ho:t.size<=10:=by omega
   clear hj
   have hh:Hid (t.data.toList.head?=some t[0]):=by
    show _=_
    have:=fH_ t 0 hy
    rw[YC] at this
    rw[this];rfl
   by_cases h48:t[0]=48∧1<t.size
   ·have ha:Hid (R=.tuple #[.int .i64 0,.bool false]):=by
     show _=_
     rw[<-hR.out,hn.out,if_pos (by rw[hh.out,hf.out,h48.1];simp[h48.2])];rfl
    have he:(t[0].toNat:Int)=48:=by rw[h48.1];rfl
    have hu:=h48.2
    clear h48
    go_wp2
    all_goals go_returns
    all_goals exact⟨by rw[ha.out];rfl,rfl⟩
   ·have hq:Hid (numP t.data.toList=(Lib.decFrom 0 t.data.toList).map fun (n:Nat)=>(n:Int)):=by
     show _=_
     rw[hn.out,if_neg]
     rw[hh.out,hf.out]
     rintro (h | h | h)
     ·omega
     ·omega
     ·exact h48 ⟨Zi h.1,h.2⟩
    have he:¬ (t[0].toNat:Int)=48∨t.size<=1:=by
     by_cases h1:1<t.size
     ·exact .inl fun e=>h48 ⟨UInt8.toNat_inj.1 (by simp;omega),h1⟩
     ·exact .inr (by omega)
    clear h48 hh hn
    by_cases h480:(t[0].toNat:Int)=48
    all_goals (try have hB:t.size<=1:=by omega)
    all_goals clear he
    all_goals go_wp2_with fail
    all_goals (
     go_loop [5,6] (fun nv ix=>∃ (k m:Nat),k<=t.size∧ix=.int .i64 k∧nv=.int .i64 m∧m<10000000000∧Hid (Lib.decFrom 0 (t.data.toList.take k)=some m)) (fun _ ix=>t.size-(intOf ix).toNat)
     case atStart=>exact⟨0,0,Zg _,rfl,rfl,by omega,rfl⟩
     case round=>
      obtain⟨k,m,hk,rfl,rfl,hm,hI⟩:=hrel
      by_cases hlt:k<t.size
      ·have hb:t.data.toList[k]?=some t[k]:=by rw[ZI (by simpa using hlt)];rfl
       by_cases hc:48<=t[k].toNat∧t[k].toNat<=57
       ·have ht:Hid (Lib.decFrom 0 (t.data.toList.take (k+1))=some (m*10+(t[k].toNat-48))):=HR hI.out hb hc.1 hc.2
        have hx:=I3 ht.out (by rw[hf.out];exact ho)
        obtain⟨hz,hA⟩:=hc
        have hv:(48:Int)<=t[k].toNat:=by omega
        have hw:(t[k].toNat:Int)<=57:=by omega
        go_wp2
        go_round
        case rel=>exact⟨k+1,m*10+(t[k].toNat-48),by omega,by go_num,by congr 1;omega,hx,ht⟩
        case measure=>simp[intOf];omega
       ·have ha:Hid (R=.tuple #[.int .i64 0,.bool false]):=by
         show _=_
         rw[<-hR.out,hq.out,HS hb hc];rfl
        have hl:(t[k].toNat:Int)<48∨57<(t[k].toNat:Int):=by omega
        clear hc
        rcases hl with hl | hl
        all_goals go_wp2
        all_goals go_returns
        all_goals exact⟨by rw[ha.out];rfl,rfl⟩
      ·obtain rfl:k=t.size:=by omega
       have ha:Hid (R=.tuple #[.int .i64 (m:Int),.bool true]):=by
        show _=_
        have:=hI.out
        rw[Zk (by rw[hf.out];exact Zd _)] at this
        rw[<-hR.out,hq.out,this];rfl
       go_wp2
       go_returns
       exact⟨by rw[ha.out];rfl,rfl⟩))
theorem Cv (s:ByteArray)(w:World)(hs:s.size<=2000000) :
  Calls prog 31 #[.string s] w fun e w'=>e=.returned (Dz (numP s.data.toList))∧w'=w:=by
 obtain⟨R,hR⟩:∃ R,Hid (Dz (numP s.data.toList)=R):=⟨_,rfl⟩
 rw[hR.out]
 by_cases hneg:1<s.size∧∃ h:0<s.size,s[0]=45
 ·obtain⟨g1,g0,g2⟩:=hneg
  have hg:(s[0].toNat:Int)=45:=by rw[g2];rfl
  obtain⟨t,ht⟩:∃ t,Hid (s.extract 1 s.size=t):=⟨_,rfl⟩
  have hr:Hid (s.data.toList=45::t.data.toList):=by
   show _=_
   have:=fH_ s 0 g0
   rw[YC,g2] at this
   rw[<-ht.out,Lib.extract_data,this]
   simp
   exact (Zk (by simp)).symm
  have hn:Hid (numP s.data.toList=if t.data.toList.length<1∨10<t.data.toList.length∨t.data.toList.head?=some 48 then none else (Lib.decFrom 0 t.data.toList).map fun (n:Nat)=>-(n:Int)):=by
   show _=_
   rw[hr.out];rfl
  go_enter func31,ntmps31
  go_upto_region 4 with fail
  rw[ht.out]
  have hB:t.size<=2000000:=by rw[<-ht.out];simp;omega
  clear ht hr
  have he:Hid (t.data.toList.length=t.size):=(Lib.size_eq t).symm
  by_cases hf:t.size<1∨10<t.size
  ·have ha:Hid (R=.tuple #[.int .i64 0,.bool false]):=by
    show _=_
    rw[<-hR.out,hn.out,if_pos (by rw[he.out];omega)];rfl
   rcases hf with hf | hf
   all_goals go_wp2
   all_goals go_returns
   all_goals exact⟨by rw[ha.out];rfl,rfl⟩
  ·have hy:0<t.size:=by omega
   have ho:t.size<=10:=by omega
   clear hf
   have hh:Hid (t.data.toList.head?=some t[0]):=by
    show _=_
    have:=fH_ t 0 hy
    rw[YC] at this
    rw[this];rfl
   by_cases h48:t[0]=48∧True
   ·have ha:Hid (R=.tuple #[.int .i64 0,.bool false]):=by
     show _=_
     rw[<-hR.out,hn.out,if_pos (by rw[hh.out,he.out,h48.1];simp)];rfl
    have hj:(t[0].toNat:Int)=48:=by rw[h48.1];rfl
    have hu:=h48.2
    clear h48
    go_wp2
    all_goals go_returns
    all_goals exact⟨by rw[ha.out];rfl,rfl⟩
   ·have hp:Hid (numP s.data.toList=(Lib.decFrom 0 t.data.toList).map fun (n:Nat)=>-(n:Int)):=by
     show _=_
     rw[hn.out,if_neg]
     rw[hh.out,he.out]
     rintro (h | h | h)
     ·omega
     ·omega
     ·exact h48 ⟨Zi h,trivial⟩
    have hj:¬ (t[0].toNat:Int)=48:=fun e=>h48 ⟨UInt8.toNat_inj.1 (by simp;omega),trivial⟩
    clear h48 hh hn
    skip
    go_wp2_with fail
    all_goals (
     go_loop [5,6] (fun nv ix=>∃ (k m:Nat),k<=t.size∧ix=.int .i64 k∧nv=.int .i64 m∧m<10000000000∧Hid (Lib.decFrom 0 (t.data.toList.take k)=some m)) (fun _ ix=>t.size-(intOf ix).toNat)
     case atStart=>exact⟨0,0,Zg _,rfl,rfl,by omega,rfl⟩
     case round=>
      obtain⟨k,m,hk,rfl,rfl,hm,hI⟩:=hrel
      by_cases hlt:k<t.size
      ·have hb:t.data.toList[k]?=some t[k]:=by rw[ZI (by simpa using hlt)];rfl
       by_cases hc:48<=t[k].toNat∧t[k].toNat<=57
       ·have hq:Hid (Lib.decFrom 0 (t.data.toList.take (k+1))=some (m*10+(t[k].toNat-48))):=HR hI.out hb hc.1 hc.2
        have hx:=I3 hq.out (by rw[he.out];exact ho)
        obtain⟨hz,hA⟩:=hc
        have hv:(48:Int)<=t[k].toNat:=by omega
        have hw:(t[k].toNat:Int)<=57:=by omega
        go_wp2
        go_round
        case rel=>exact⟨k+1,m*10+(t[k].toNat-48),by omega,by go_num,by congr 1;omega,hx,hq⟩
        case measure=>simp[intOf];omega
       ·have ha:Hid (R=.tuple #[.int .i64 0,.bool false]):=by
         show _=_
         rw[<-hR.out,hp.out,HS hb hc];rfl
        have hl:(t[k].toNat:Int)<48∨57<(t[k].toNat:Int):=by omega
        clear hc
        rcases hl with hl | hl
        all_goals go_wp2
        all_goals go_returns
        all_goals exact⟨by rw[ha.out];rfl,rfl⟩
      ·obtain rfl:k=t.size:=by omega
       have ha:Hid (R=.tuple #[.int .i64 (-(m:Int)),.bool true]):=by
        show _=_
        have:=hI.out
        rw[Zk (by rw[he.out];exact Zd _)] at this
        rw[<-hR.out,hp.out,this];rfl
       go_wp2
       go_returns
       exact⟨by rw[ha.out];rfl,rfl⟩)
 ·rw[<-hR.out];exact Gt s w hs hneg
theorem JF (x:ByteArray):[Value.string x].length=1:=rfl
theorem JG:∀ (l:List ByteArray),∀ u∈l.flatMap tcs,u.oneCell'=true:=by
 intro l u hu
 obtain⟨x,_,hx⟩:=ZL.1 hu
 simp at hx
 subst hx;rfl
theorem JB (w:World)(x:ByteArray)(t:TypeId)(b:Nat)(hb:b=w.heap.size):AX tcs 1 (w.alloc (.cells #[.string x] t)) (some ⟨b,0,none⟩) 1 [x]:=by
 subst hb
 refine ⟨rfl,fun i y hy=>⟨w.heap.size,0,rfl,fun j v hv=>?_⟩⟩
 obtain rfl:i=0:=by have:=(Zb.1 hy).1;simp at this;exact this
 simp at hy
 subst hy
 obtain rfl:j=0:=by have:=(Zb.1 hv).1;simp at this;exact this
 simp at hv
 subst hv
 simp
theorem MT:(prog.info? 9).map (fun i=>(i.zero,i.size,i.bytes))=some (some (.string .empty),1,16):=by kernel_rfl
theorem FE {w:World}{a:Option Addr}{n:Nat}{l:List ByteArray}(h:AX tcs 1 w a n l){k:Nat}(hk:k<n):∃ b o s,a=some ⟨b,o,none⟩∧l[k]?=some s∧w.cell? ⟨b,o+k,none⟩=some (.string s):=by
 have hl:k<l.length:=by rw[h.len];exact hk
 have hx:l[k]?=some l[k]:=by simp[hl]
 obtain⟨b,o,ha,hc⟩:=h.cell k _ hx
 exact⟨b,o,l[k],ha,hx,by have:=hc 0 _ rfl;simpa using this⟩
theorem Ha:∀ (n k k':Nat) (l:By),l.length<=n->l.length<=k->l.length<=k'->A0 k l=A0 k' l
 |0,k,k',l,h,_,_=>by
  obtain rfl:=Zt (Nat.le_zero.1 h)
  cases k<;>cases k'<;>rfl
 |n+1,k,k',l,h,h1,h2=>by
  cases hc:cutB 32 l with
  |none=>
   have:∀ k,A0 k l=[l]:=fun k=>by
    cases k with
    |zero=>rfl
    |succ k=>rw[A0,hc]
   rw[this,this]
  |some q=>
   have hq:q.2.length<l.length:=by
    obtain⟨h1,_⟩:=A4 (a:=q.1) (b:=q.2) hc
    rw[h1];simp;omega
   obtain⟨k,rfl⟩:∃ j,k=j+1:=⟨k-1,by omega⟩
   obtain⟨k',rfl⟩:∃ j,k'=j+1:=⟨k'-1,by omega⟩
   rw[A0,A0,hc]
   simp only
   rw[Ha n k k' q.2 (by omega) (by omega) (by omega)]
theorem Kh {l:By}(h:cutB 32 l=none):Cm l=[l]:=by
 unfold Cm
 cases l.length with
 |zero=>rfl
 |succ k=>rw[A0,h]
theorem Ki {l:By}{q:By×By}(h:cutB 32 l=some q):Cm l=q.1::Cm q.2∧q.2.length<l.length:=by
 have hq:q.2.length<l.length:=by
  obtain⟨h1,_⟩:=A4 (a:=q.1) (b:=q.2) h
  rw[h1];simp;omega
 refine ⟨?_,hq⟩
 unfold Cm
 obtain⟨k,hk⟩:∃ j,l.length=j+1:=⟨l.length-1,by omega⟩
 rw[hk,A0,h]
 simp only
 rw[Ha _ k q.2.length q.2 (Zd _) (by omega) (Zd _)]
theorem CW (s:ByteArray)(w:World)(hs:s.size<=100000) :
  Calls prog 100 #[.string s] w fun e w'=>(∃ a n cap,e=.returned (.slice a n cap)∧n<=100001∧Ad tcs 1 9 w' w.heap.size a n cap ((Cm s.data.toList).map bA))∧Below w.heap.size w w':=by
 obtain⟨i0,hk,hn,ho,hp⟩:=info_parts MT
 obtain⟨R,hR⟩:∃ R,Hid ((Cm s.data.toList).map bA=R):=⟨_,rfl⟩
 rw[hR.out]
 go_enter func100,ntmps100
 go_wp2_with fail
 go_loopw [0,3,4] (fun sv out mv wr=>∃ (rest:ByteArray) (m:Bool) (acc:List ByteArray) (a:Option Addr) (n cap:Nat),sv=.string rest∧out=.slice a n cap∧mv=.bool m∧n+rest.size<=(if m=true then 100000 else 100001)∧Ad tcs 1 9 wr w.heap.size a n cap acc∧Hid (R=acc++(if m=true then (Cm rest.data.toList).map bA else []))∧Below w.heap.size w wr) (fun sv _ mv _=>match sv,mv with | .string r,.bool true=>r.size+1 | _,_=>0)
 case atStart=>exact⟨s,true,[],_,0,0,rfl,rfl,rfl,by simpa using hs,aw_ (Blk.new w #[] 9) (Zd _),by show _=_;rw[<-hR.out];rfl,by go_grown⟩
 case round=>
  obtain⟨rest,m,acc,a,n,cap,rfl,rfl,rfl,hm,hA,hI,hB⟩:=hrel
  cases m with
  |false=>
   have hh:R=acc:=by rw[hI.out];simp
   subst hh
   simp only[Zj,if_false] at hm
   go_wp2
   go_returns
   exact⟨⟨a,n,cap,rfl,by omega,hA⟩,hB⟩
  |true=>
   simp only[if_true] at hm hI
   have hu:=hB.size
   go_wp2_with fail
   refine (Dg 32 rest _ (by omega)).mono ?_
   rintro e w1 ⟨rfl,hb⟩
   have ha:=hA.below hb
   replace hb:=Aa hB hb
   have ht:=hb.size
   cases hc:cutB 32 rest.data.toList with
   |none=>
    have hv:EP 32 rest=.tuple #[.string rest,.string ⟨#[]⟩,.bool false]:=by unfold EP;rw[hc]
    have hf:Hid (R=(acc++[rest])++(if false=true then (Cm (⟨#[]⟩:ByteArray).data.toList).map bA else [])):=by
     show _=_
     rw[hI.out,Kh hc]
     simp[Cy]
    rw[hv]
    clear hv hc hI hA hB
    go_wp2_with (at_builtin;refine ag_ rfl (fun K hK=>ay_ _ _ 94 rfl w.heap.size 9 i0 (.string .empty) 16 underlying94 hk hn ho hp rfl (by decide) JF JG a n cap _ rfl (ha.alloc _) _ 1 1 [rest] rfl (JB _ _ _ _ (by first | rfl | simp)) (fun ad h=>(by cases h;rfl)) (fun h=>(by cases h)) (n+1) rfl (by unfold maxLen;omega) (by omega) (by simp;omega) (fun a4 cap4 w4 R4 hj=>hK _ _ ?_)))
    have he:Below w.heap.size w w4:=Yi (by go_grown) hj (by simp;omega) (aG_ fun ad hg=>by have:=(ha.block ad hg).1;omega)
    go_roundw
    case rel=>exact⟨⟨#[]⟩,false,acc++[rest],a4,n+1,cap4,rfl,rfl,rfl,by show n+1+0<=_;simp;omega,R4,hf,he⟩
    case measure=>simp
   |some q=>
    have hv:EP 32 rest=.tuple #[.string (bA q.1),.string (bA q.2),.bool true]:=by unfold EP;rw[hc]
    obtain⟨hl,hq⟩:=Ki hc
    have hf:Hid (R=(acc++[bA q.1])++(if true=true then (Cm (bA q.2).data.toList).map bA else [])):=by
     show _=_
     rw[hI.out,hl]
     simp[Af]
    have hr:(bA q.2).size+1<=rest.size:=by
     rw[Lib.size_eq,Lib.size_eq,Af]
     omega
    rw[hv]
    clear hv hc hI hA hB hl hq
    generalize bA q.1=one at *
    generalize bA q.2=more at *
    go_wp2_with (at_builtin;refine ag_ rfl (fun K hK=>ay_ _ _ 94 rfl w.heap.size 9 i0 (.string .empty) 16 underlying94 hk hn ho hp rfl (by decide) JF JG a n cap _ rfl (ha.alloc _) _ 1 1 [one] rfl (JB _ _ _ _ (by first | rfl | simp)) (fun ad h=>(by cases h;rfl)) (fun h=>(by cases h)) (n+1) rfl (by unfold maxLen;omega) (by omega) (by simp;omega) (fun a4 cap4 w4 R4 hj=>hK _ _ ?_)))
    have he:Below w.heap.size w w4:=Yi (by go_grown) hj (by simp;omega) (aG_ fun ad hg=>by have:=(ha.block ad hg).1;omega)
    go_roundw
    case rel=>exact⟨more,true,acc++[one],a4,n+1,cap4,rfl,rfl,rfl,by simp;omega,R4,hf,he⟩
    case measure=>simp;omega
def J0 (w:List ByteArray)(i:Nat):Int:=match w[i]? with
 |none=>-1
 |some x=>(numP x.data.toList).getD (-1)
def GB (w:List ByteArray)(i:Nat):ByteArray:=w[i]?.getD ⟨#[]⟩
theorem Bm (a:Option Addr)(n cap:Nat)(l:List ByteArray)(i:Nat)(w:World)(h:AX tcs 1 w a n l)(hl:∀ x∈l,x.size<=100000) :
  Calls prog 101 #[.slice a n cap,.int .i64 i] w fun e w'=>e=.returned (.int .i64 (J0 l i))∧w'=w:=by
 obtain⟨R,hR⟩:∃ R,Hid (J0 l i=R):=⟨_,rfl⟩
 rw[hR.out]
 go_enter func101,ntmps101
 by_cases hlt:i<n
 ·obtain⟨b,o,x,rfl,hx,c0⟩:=FE h hlt
  have hb:(i:Int)<n:=by omega
  have he:=hl x (Zc hx)
  have hf:Hid (R=(numP x.data.toList).getD (-1)):=by show _=_;rw[<-hR.out,J0,hx]
  clear h hl hx
  go_wp2_with fail
  refine (Cv x _ (by omega)).mono ?_
  rintro e w1 ⟨rfl,rfl⟩
  cases hc:numP x.data.toList with
  |none=>
   have ha:R=-1:=by rw[hf.out,hc];rfl
   rw[show Dz none=.tuple #[.int .i64 0,.bool false] from rfl]
   go_wp2
   go_returns
   exact⟨by rw[ha];rfl,rfl⟩
  |some m=>
   have ha:R=m:=by rw[hf.out,hc];rfl
   rw[show Dz (some m)=.tuple #[.int .i64 m,.bool true] from rfl]
   go_wp2
   go_returns
   exact⟨by rw[ha];rfl,rfl⟩
 ·have hb:¬ (i:Int)<n:=by omega
  have ha:R=-1:=by rw[<-hR.out,J0,List.getElem?_eq_none (by rw[h.len];omega)]
  go_wp2
  go_returns
  exact⟨rfl,rfl⟩
theorem BR (a:Option Addr)(n cap:Nat)(l:List ByteArray)(i:Nat)(w:World)(h:AX tcs 1 w a n l) :
  Calls prog 102 #[.slice a n cap,.int .i64 i] w fun e w'=>e=.returned (.string (GB l i))∧w'=w:=by
 obtain⟨R,hR⟩:∃ R,Hid (GB l i=R):=⟨_,rfl⟩
 rw[hR.out]
 go_enter func102,ntmps102
 by_cases hlt:i<n
 ·obtain⟨b,o,x,rfl,hx,c0⟩:=FE h hlt
  have ha:(i:Int)<n:=by omega
  have hb:R=x:=by rw[<-hR.out,GB,hx];rfl
  clear h hx
  go_wp2
  go_returns
  exact⟨by rw[hb];rfl,rfl⟩
 ·have ha:¬ (i:Int)<n:=by omega
  have hb:R=⟨#[]⟩:=by rw[<-hR.out,GB,List.getElem?_eq_none (by rw[h.len];omega)];rfl
  go_wp2
  go_returns
  exact⟨rfl,rfl⟩
end
section
open Go Tryz
def Di (w:List By)(i:Nat):Int:=match w[i]? with
 |none=>-1
 |some x=>(numP x).getD (-1)
def AY (w:List By)(i:Nat):By:=w[i]?.getD []
def ET (l:By):By:=match cutB 32 l with
 |none=>[]
 |some q=>q.2
def Eo {α:Type}(f:α->α):List α->List α
 |[]=>[]
 |[x]=>[f x]
 |x::y::l=>x::Eo f (y::l)
theorem Cu {α:Type}(f:α->α):∀ (a:List α) (x:α),Eo f (a++[x])=a++[f x]
 |[],x=>rfl
 |[y],x=>rfl
 |y::z::a,x=>by
  show y::Eo f (z::a++[x])=_
  rw[Cu f (z::a) x];rfl
def ctQ (w:List By):Ct:=⟨⟨Di w 1,Di w 2,bA (AY w 3)⟩,(numP (AY w 4)).getD 0⟩
def Lg (w:List By):Vo:=⟨Di w 1,bA (AY w 2),AY w 3==[49],[]⟩
def BG (p:Po)(k:By)(w:List By)(l:By):Po:=
 if k=BA then {p with size:=Di w 1,next:=Di w 2}
 else if k=exK then {p with ex:=p.ex++[⟨Di w 1,bA (ET (ET l))⟩]}
 else if k=Cl then {p with vs:=p.vs++[Lg w]}
 else if k=Bz then {p with vs:=Eo (fun v=>{v with its:=v.its++[⟨bA (AY w 1),[]⟩]}) p.vs}
 else if k=partK then {p with vs:=Eo (fun v=>{v with its:=Eo (fun x=>{x with ps:=x.ps++[⟨Di w 1,Di w 2,Di w 3⟩]}) v.its}) p.vs}
 else if k=B7 then {p with rf:=p.rf++[ctQ w]}
 else if k=Bj then {p with lt:=p.lt++[ctQ w]}
 else p
def AM (p:Po)(l:By):Po:=BG p (AY (Cm l) 0) (Cm l) l
theorem Df (p:Po){l k:By}{r:List By}(h:Cm l=k::r):AM p l=BG p k (k::r) l:=by
 unfold AM
 rw[h]
 rfl
theorem Iv:∀ {ws:List By} {k:Nat},ws≠[]->(∀ w∈ws,(32:UInt8)∉w)->ws.length<=k+1->A0 k (joW ws)=ws
 |[],_,h,_,_=>absurd rfl h
 |[a],0,_,_,_=>rfl
 |[a],k+1,_,h,_=>by
  show A0 (k+1) a=_
  rw[A0,Fr (h a (by simp))]
 |a::b::l,0,_,_,hk=>by simp at hk
 |a::b::l,k+1,_,h,hk=>by
  show A0 (k+1) (a++32::joW (b::l))=_
  rw[A0,Ca _ (h a (by simp))]
  simp only
  rw[Iv (by simp) (fun w hw=>h w (by simp[Zn.1 hw])) (by simpa using hk)]
theorem Jd:∀ (ws:List By),ws.length<=(joW ws).length+1
 |[]=>by simp
 |[a]=>by simp
 |a::b::l=>by
  have:=Jd (b::l)
  simp[joW] at this ⊢;omega
theorem EF {ws:List By}(h:ws≠[])(h2:∀ w∈ws,(32:UInt8)∉w):Cm (joW ws)=ws:=Iv h h2 (Jd ws)
theorem L6 {a b d:By}(ha:(32:UInt8)∉a)(hb:(32:UInt8)∉b):∃ r,Cm (joW [a,b,d])=a::b::r:=by
 unfold Cm
 obtain⟨k,hk⟩:∃ k,(joW [a,b,d]).length=k+2:=⟨(joW [a,b,d]).length-2,by simp[joW];omega⟩
 rw[hk]
 show ∃ r,A0 (k+2) (a++32::(b++32::d))=_
 rw[A0,Ca _ ha]
 simp only
 rw[A0,Ca _ hb]
 exact⟨_,rfl⟩
theorem Ks {a:By}{b:By}{l:List By}(h:(32:UInt8)∉a):ET (joW (a::b::l))=joW (b::l):=by
 show ET (a++32::joW (b::l))=_
 unfold ET
 rw[Ca _ h]
theorem CT {w:List By}{i:Nat}{n:Int}(h:w[i]?=some (Lib.itoa n))(hn:AK n):Di w i=n:=by
 unfold Di
 rw[h]
 simp[Bg hn]
theorem KR (p:Po){a b:Int}(h:AK a∧AK b):AM p (joW [BA,Lib.itoa a,Lib.itoa b])={p with size:=a,next:=b}:=by
 rw[Df p (EF (by simp) (by simp[BM];decide)),BG,if_pos rfl,CT rfl h.1,CT rfl h.2]
theorem KQ (p:Po){e:Ex}(h:AK e.a):AM p (DM e)={p with ex:=p.ex++[e]}:=by
 obtain⟨r,hr⟩:=L6 (a:=exK) (b:=Lib.itoa e.a) (d:=e.d.data.toList) (by decide) (BM _)
 unfold DM
 rw[Df p hr,BG,if_neg (by decide),if_pos rfl,CT rfl h,Ks (by decide),Ks (BM _)]
 simp[joW,Cy]
theorem J3 (p:Po){v:Vo}(h:AK v.id)(h2:(32:UInt8)∉v.nm.data.toList):AM p (joW [Cl,Lib.itoa v.id,v.nm.data.toList,Dm v.fx])={p with vs:=p.vs++[{v with its:=[]}]}:=by
 have hf:(32:UInt8)∉Dm v.fx:=by cases v.fx<;>decide
 rw[Df p (EF (by simp) (by simp[BM,h2,hf];decide)),BG,if_neg (by decide),if_neg (by decide),if_pos rfl,Lg,CT rfl h]
 have e:(AY [Cl,Lib.itoa v.id,v.nm.data.toList,Dm v.fx] 3==[49])=v.fx:=by
  show (Dm v.fx==[49])=_
  cases v.fx<;>rfl
 rw[e]
 simp[AY,Cy]
theorem IG (p:Po){nm:ByteArray}(h2:(32:UInt8)∉nm.data.toList):AM p (joW [Bz,nm.data.toList])={p with vs:=Eo (fun v=>{v with its:=v.its++[⟨nm,[]⟩]}) p.vs}:=by
 rw[Df p (EF (by simp) (by simp[h2];decide)),BG,if_neg (by decide),if_neg (by decide),if_neg (by decide),if_pos rfl]
 simp[AY,Cy]
theorem II (p:Po){t:Pt}(h:AK t.a∧AK t.f∧AK t.n):AM p (FA t)={p with vs:=Eo (fun v=>{v with its:=Eo (fun x=>{x with ps:=x.ps++[t]}) v.its}) p.vs}:=by
 unfold FA
 rw[Df p (EF (by simp) (by simp[BM];decide)),BG,if_neg (by decide),if_neg (by decide),if_neg (by decide),if_neg (by decide),if_pos rfl,CT rfl h.1,CT rfl h.2.1,CT rfl h.2.2]
theorem Kw {wd:By}{c:Ct}(h:AK c.o.a∧AK c.o.v∧AK c.n):ctQ [wd,Lib.itoa c.o.a,Lib.itoa c.o.v,c.o.f.data.toList,Lib.itoa c.n]=c:=by
 unfold ctQ
 rw[CT rfl h.1,CT rfl h.2.1]
 simp[AY,Cy,Bg h.2.2]
theorem J2 (p:Po){c:Ct}(h:AK c.o.a∧AK c.o.v∧AK c.n)(h2:(32:UInt8)∉c.o.f.data.toList):AM p (Bu B7 c)={p with rf:=p.rf++[c]}:=by
 unfold Bu
 rw[Df p (EF (by simp) (by simp[BM,h2];decide)),BG,if_neg (by decide),if_neg (by decide),if_neg (by decide),if_neg (by decide),if_neg (by decide),if_pos rfl,Kw h]
theorem IH (p:Po){c:Ct}(h:AK c.o.a∧AK c.o.v∧AK c.n)(h2:(32:UInt8)∉c.o.f.data.toList):AM p (Bu Bj c)={p with lt:=p.lt++[c]}:=by
 unfold Bu
 rw[Df p (EF (by simp) (by simp[BM,h2];decide)),BG,if_neg (by decide),if_neg (by decide),if_neg (by decide),if_neg (by decide),if_neg (by decide),if_neg (by decide),if_pos rfl,Kw h]
theorem I8:∀ {l:List Ex} (p:Po),(∀ e∈l,AK e.a)->(l.map DM).foldl AM p={p with ex:=p.ex++l}
 |[],p,_=>by simp
 |e::l,p,h=>by
  rw[YD,YE,KQ p (h e (by simp)),I8 _ (fun x hx=>h x (by simp[hx]))]
  simp
theorem HW:∀ {l:List Ct} (p:Po),(∀ c∈l,(AK c.o.a∧AK c.o.v∧AK c.n)∧(32:UInt8)∉c.o.f.data.toList)->(l.map (Bu B7)).foldl AM p={p with rf:=p.rf++l}
 |[],p,_=>by simp
 |e::l,p,h=>by
  rw[YD,YE,J2 p (h e (by simp)).1 (h e (by simp)).2,HW _ (fun x hx=>h x (by simp[hx]))]
  simp
theorem GR:∀ {l:List Ct} (p:Po),(∀ c∈l,(AK c.o.a∧AK c.o.v∧AK c.n)∧(32:UInt8)∉c.o.f.data.toList)->(l.map (Bu Bj)).foldl AM p={p with lt:=p.lt++l}
 |[],p,_=>by simp
 |e::l,p,h=>by
  rw[YD,YE,IH p (h e (by simp)).1 (h e (by simp)).2,GR _ (fun x hx=>h x (by simp[hx]))]
  simp
theorem GS:∀ {l:List Pt} (p:Po) (vs:List Vo) (v:Vo) (xs:List It) (x:It),(∀ t∈l,AK t.a∧AK t.f∧AK t.n)->(l.map FA).foldl AM {p with vs:=vs++[{v with its:=xs++[x]}]}={p with vs:=vs++[{v with its:=xs++[{x with ps:=x.ps++l}]}]}
 |[],p,vs,v,xs,x,_=>by simp
 |t::l,p,vs,v,xs,x,h=>by
  rw[YD,YE,II _ (h t (by simp))]
  simp only[Cu]
  rw[GS p vs v xs {x with ps:=x.ps++[t]} (fun x hx=>h x (by simp[hx]))]
  simp
theorem GQ:∀ {l:List It} (p:Po) (vs:List Vo) (v:Vo) (xs:List It),(∀ x∈l,(32:UInt8)∉x.nm.data.toList∧∀ t∈x.ps,AK t.a∧AK t.f∧AK t.n)->(l.flatMap BX).foldl AM {p with vs:=vs++[{v with its:=xs}]}={p with vs:=vs++[{v with its:=xs++l}]}
 |[],p,vs,v,xs,_=>by simp
 |x::l,p,vs,v,xs,h=>by
  obtain⟨h1,h2⟩:=h x (by simp)
  rw[ZF,List.foldl_append,BX,YE,IG _ h1]
  simp only[Cu]
  rw[GS p vs v xs ⟨x.nm,[]⟩ h2]
  simp only[ZM]
  rw[GQ p vs v (xs++[x]) (fun y hy=>h y (by simp[hy]))]
  simp
theorem HX:∀ {l:List Vo} (p:Po) (vs:List Vo),(∀ v∈l,AK v.id∧(32:UInt8)∉v.nm.data.toList∧∀ x∈v.its,(32:UInt8)∉x.nm.data.toList∧∀ t∈x.ps,AK t.a∧AK t.f∧AK t.n)->(l.flatMap Bt).foldl AM {p with vs:=vs}={p with vs:=vs++l}
 |[],p,vs,_=>by simp
 |v::l,p,vs,h=>by
  obtain⟨h1,h2,h3⟩:=h v (by simp)
  rw[ZF,List.foldl_append,Bt,YE,J3 _ h1 h2]
  simp only
  rw[GQ p vs v [] h3]
  simp only[ZM]
  rw[HX p (vs++[v]) (fun y hy=>h y (by simp[hy]))]
  simp
theorem JY {p:Po}(h:Gb p):(Ch p).foldl AM Ar=p:=by
 obtain⟨ph,pe,pv,pc⟩:=h
 have e:Ch p=joW [BA,Lib.itoa p.size,Lib.itoa p.next]::(p.ex.map DM++(p.vs.flatMap Bt++(p.rf.map (Bu B7)++p.lt.map (Bu Bj)))):=by simp[Ch]
 rw[e,YE,KR _ ph,List.foldl_append,I8 _ (fun x hx=>(pe x hx).1),List.foldl_append]
 simp only[Ar,ZM]
 have hv:=HX (l:=p.vs) ⟨p.size,p.next,p.ex,[],[],[]⟩ [] (fun v hv=>⟨(pv v hv).1,(pv v hv).2.1.1,fun x hx=>⟨((pv v hv).2.2 x hx).1.1,((pv v hv).2.2 x hx).2⟩⟩)
 simp only[ZM] at hv
 rw[hv,List.foldl_append,HW _ (fun c hc=>⟨(pc c (by simp[hc])).1,(pc c (by simp[hc])).2.1⟩),GR _ (fun c hc=>⟨(pc c (by simp[hc])).1,(pc c (by simp[hc])).2.1⟩)]
 simp
def Gr (s:By):Option Po:=(lnsB s.length s).map fun ls=>ls.foldl AM Ar
theorem Jz {p:Po}(h:Gb p):Gr (AO p)=some p:=by
 unfold Gr
 rw[H4 h]
 simp[JY h]
end
section
open Go Go.RowKit Go.BigFrame Tryz
theorem Dc (ws:List By)(i:Nat):J0 (ws.map bA) i=Di ws i:=by
 unfold J0 Di
 rw[List.getElem?_map]
 cases ws[i]? with
 |none=>rfl
 |some x=>simp[Af]
theorem Dd (ws:List By)(i:Nat):GB (ws.map bA) i=bA (AY ws i):=by
 unfold GB AY
 rw[List.getElem?_map]
 cases ws[i]? with
 |none=>rfl
 |some x=>rfl
structure Fm (K:Nat)(p:Po):Prop where
 ex:p.ex.length<=K
 vs:p.vs.length<=K
 its:∀ v∈p.vs,v.its.length<=K∧∀ x∈v.its,x.ps.length<=K
 rf:p.rf.length<=K
 lt:p.lt.length<=K
theorem DD {B:Nat}{w0 w:World}{b:Nat}{c:Array Value}{v:Value}{p:Po}(h:Blk w b c 28)(hB:Below B w0 w)(hb:B<=b)(hM:AE B w v p)(i:Nat)(x:Value) :
  Blk (w.setCell ⟨b,i,none⟩ x) b (c.setIfInBounds i x) 28∧AE B (w.setCell ⟨b,i,none⟩ x) v p∧Below B w0 (w.setCell ⟨b,i,none⟩ x)∧w.grownBy (w.setCell ⟨b,i,none⟩ x) (some b):=by
 have hg:w.grownBy (w.setCell ⟨b,i,none⟩ x) (some b):=af_ (Yh _ _) _ _
 exact⟨h.set i x,hM.box hg h,hB.grown hg (by have:=h.lt;omega) (fun k e=>by cases e;exact hb),hg⟩
theorem AE.nums {B:Nat}{w:World}{p:Po}{a b a' b':Int}{x2 x3 x4 x5:Value}(h:AE B w (.agg #[.int .i64 a,.int .i64 b,x2,x3,x4,x5]) p):AE B w (.agg #[.int .i64 a',.int .i64 b',x2,x3,x4,x5]) {p with size:=a',next:=b'}:=by
 obtain⟨ea,en,ec,va,vn,vc,ra,rn,rc,la,ln,lc,vr,e,h1,h2,h3,h4,h5,h6,h7,h8⟩:=h.out
 cases e
 exact⟨ea,en,ec,va,vn,vc,ra,rn,rc,la,ln,lc,vr,rfl,h1,h2,h3,h4,h5,h6,h7,h8⟩
theorem cbx {w:World}{b:Nat}{c0 c1 c2 c3:Value}{t:TypeId}(h:Blk w b #[c0,c1,c2,c3] t):w.cell? ⟨b,0,none⟩=some c0∧w.cell? ⟨b,1,none⟩=some c1∧w.cell? ⟨b,2,none⟩=some c2∧w.cell? ⟨b,3,none⟩=some c3:=⟨h.cell 0,h.cell 1,h.cell 2,h.cell 3⟩
theorem Jk {a:Option Addr}{n c b:Nat}(h:∀ ad,a=some ad->ad.block≠b):some b≠Value.ownBlock (.slice a n c):=by
 cases a with
 |none=>simp[Value.ownBlock]
 |some ad=>have:=h ad rfl;simp[Value.ownBlock];omega
theorem Kf (vr:List VQ)(i:Int)(t:ByteArray)(b:Bool):Eu (vr++[⟨i,t,b,none,0,0,[]⟩])=Eu vr:=by
 unfold Eu
 simp[CF]
theorem K0 (vr:List VQ)(i:Int)(t:ByteArray)(b:Bool):DS (vr++[⟨i,t,b,none,0,0,[]⟩])=DS vr:=by
 unfold DS
 simp
theorem Al2.lastL {α β:Type}{R:α->β->Prop}{x:α}:∀ {l:List α} {m:List β},Al2 R (l++[x]) m->∃ m' y,m=m'++[y]∧Al2 R l m'∧R x y
 |[],_,h=>by
  cases h with
  |cons hr ht=>cases ht;exact⟨[],_,rfl,.nil,hr⟩
 |z::l,_,h=>by
  cases h with
  |cons hr ht=>
   obtain⟨m',y,rfl,h1,h2⟩:=Al2.lastL ht
   exact⟨_::m',y,rfl,.cons hr h1,h2⟩
theorem HP (s:ByteArray):∃ x y,EP 32 s=.tuple #[x,.string (bA (ET s.data.toList)),y]:=by
 unfold EP ET
 cases cutB 32 s.data.toList with
 |none=>exact⟨_,_,rfl⟩
 |some q=>exact⟨_,_,rfl⟩
theorem HG (s:ByteArray):(bA (ET s.data.toList)).size<=s.size:=by
 rw[Lib.size_eq,Af,Lib.size_eq s]
 unfold ET
 cases hc:cutB 32 s.data.toList with
 |none=>simp
 |some q=>
  obtain⟨h1,_⟩:=A4 (a:=q.1) (b:=q.2) hc
  rw[h1];simp;omega
theorem DI {l:List Nat}{o:Option Nat}{b:Nat}(h:(l++o.toList).Nodup)(hb:b∈l):o≠some b:=fun e=>by
 subst e
 exact (Yf.1 h).2.2 b hb b (by simp) rfl
theorem F3 {a:Option Addr}{n c b:Nat}(h:CF a≠some b):some b≠Value.ownBlock (.slice a n c):=by
 cases a with
 |none=>simp[Value.ownBlock]
 |some ad=>simp[CF] at h;simp[Value.ownBlock];omega
theorem VoR.offI {w w':World}{B:Nat}{row:Option Nat}{r:VQ}{v:Vo}(h:VoR w B r v)(hg:w.grownBy w' row)(hr:BF w row tI)(hne:∀ ad,r.a=some ad->some ad.block≠row):VoR w' B r v:=
 ⟨h.id,h.nm,h.fx,h.rows.off hg hne,h.its.imp fun _ _ _ h=>h.ty hg hr (by decide)⟩
theorem VoR.offP {w w':World}{B:Nat}{row:Option Nat}{r:VQ}{v:Vo}(h:VoR w B r v)(hg:w.grownBy w' row)(hr:BF w row tP)(hne:∀ x∈r.irs,∀ ad,x.a=some ad->some ad.block≠row):VoR w' B r v:=
 ⟨h.id,h.nm,h.fx,h.rows.ty hg hr (by decide),h.its.imp fun x hx _ h=>⟨h.nm,h.ps.off hg (hne x hx)⟩⟩
theorem Ip {α:Type}(l:List α)(x y:α):(l++[x]).set l.length y=l++[y]:=by simp
theorem Li {w:World}{B n c:Nat}{a:Option Addr}{l:List VQ}{r r':VQ}(h:Ad VQ.cs 4 tV w B a n c (l++[r]))(he:r'.cs=r.cs):Ad VQ.cs 4 tV w B a n c (l++[r']):=by
 refine ⟨⟨by have:=h.sl.len;simpa using this,fun i x hx=>?_⟩,?_⟩
 ·rcases Nat.lt_or_ge i l.length with hi | hi
  ·rw[ZD hi] at hx
   exact h.sl.cell i x (by rw[ZD hi];exact hx)
  ·rw[Zv hi] at hx
   have h0:i-l.length=0:=by have:=(Zb.1 hx).1;simp at this;omega
   rw[h0] at hx
   obtain rfl:r'=x:=by simpa using hx
   rw[he]
   exact h.sl.cell i r (by rw[Zv hi,h0];rfl)
 ·rcases h.own with h0 | ⟨b,ha,hB,h1,h2,k,hk,h3,h4⟩
  ·exact .inl h0
  ·refine .inr ⟨b,ha,hB,h1,h2,k,hk,h3,?_⟩
   rw[h4]
   simp[he]
theorem mem_modL {α:Type}{f:α->α}:∀ {l:List α} {y:α},y∈Eo f l->y∈l∨∃ x∈l,y=f x
 |[],y,h=>by simp[Eo] at h
 |[a],y,h=>by
  simp[Eo] at h
  exact .inr ⟨a,by simp,h⟩
 |a::b::l,y,h=>by
  rw[Eo] at h
  rcases Zn.1 h with rfl | h
  ·exact .inl (by simp)
  ·rcases mem_modL (l:=b::l) h with h | ⟨x,hx,e⟩
   ·exact .inl (ZY _ h)
   ·exact .inr ⟨x,ZY _ hx,e⟩
theorem Fd {α:Type}(f:α->α):∀ (l:List α),(Eo f l).length=l.length
 |[]=>rfl
 |[a]=>rfl
 |a::b::l=>by rw[Eo];simp[Fd f (b::l)]
structure JO (S:Nat)(p:Po):Prop where
 ex:∀ e∈p.ex,e.d.size<=S
 vs:∀ v∈p.vs,v.nm.size<=S∧∀ x∈v.its,x.nm.size<=S
 rf:∀ c∈p.rf,c.o.f.size<=S
 lt:∀ c∈p.lt,c.o.f.size<=S
theorem Cz (l:By):(bA l).size=l.length:=by rw[Lib.size_eq,Af]
theorem Lk (l:By)(i:Nat):(AY (Cm l) i).length<=l.length:=by
 unfold AY
 cases h:(Cm l)[i]? with
 |none=>simp
 |some x=>exact C0 x (Zc h)
theorem IX (l:By):(ET l).length<=l.length:=by
 have:=HG (bA l)
 rw[Cz,Af,Cz] at this
 exact this
theorem Fm.line {K:Nat}{p:Po}(h:Fm K p)(l:By):Fm (K+1) (AM p l):=by
 have h0:Fm (K+1) p:=⟨Nat.le_succ_of_le h.ex,Nat.le_succ_of_le h.vs,fun v hv=>⟨Nat.le_succ_of_le (h.its v hv).1,fun x hx=>Nat.le_succ_of_le ((h.its v hv).2 x hx)⟩,Nat.le_succ_of_le h.rf,Nat.le_succ_of_le h.lt⟩
 unfold AM BG
 split
 ·exact⟨h0.ex,h0.vs,h0.its,h0.rf,h0.lt⟩
 split
 ·exact⟨by simpa using h.ex,h0.vs,h0.its,h0.rf,h0.lt⟩
 split
 ·refine ⟨h0.ex,by simpa using h.vs,fun v hv=>?_,h0.rf,h0.lt⟩
  rcases Zs.1 hv with hv | hv
  ·exact h0.its v hv
  ·rw[YP.1 hv,Lg]
   exact⟨by simp,fun x hx=>by simp at hx⟩
 split
 ·refine ⟨h0.ex,by simpa [Fd] using h0.vs,fun v hv=>?_,h0.rf,h0.lt⟩
  rcases mem_modL hv with hv | ⟨u,hu,rfl⟩
  ·exact h0.its v hv
  ·refine ⟨by simpa using (h.its u hu).1,fun x hx=>?_⟩
   rcases Zs.1 hx with hx | hx
   ·exact (h0.its u hu).2 x hx
   ·rw[YP.1 hx];simp
 split
 ·refine ⟨h0.ex,by simpa [Fd] using h0.vs,fun v hv=>?_,h0.rf,h0.lt⟩
  rcases mem_modL hv with hv | ⟨u,hu,rfl⟩
  ·exact h0.its v hv
  ·refine ⟨by simpa [Fd] using (h0.its u hu).1,fun x hx=>?_⟩
   rcases mem_modL hx with hx | ⟨y,hy,rfl⟩
   ·exact (h0.its u hu).2 x hx
   ·simpa using (h.its u hu).2 y hy
 split
 ·exact⟨h0.ex,h0.vs,h0.its,by simpa using h.rf,h0.lt⟩
 split
 ·exact⟨h0.ex,h0.vs,h0.its,h0.rf,by simpa using h.lt⟩
 exact h0
theorem JO.line {S:Nat}{p:Po}(h:JO S p)(l:By)(hl:l.length<=S):JO S (AM p l):=by
 have hw:∀ i,(bA (AY (Cm l) i)).size<=S:=fun i=>by rw[Cz];exact Zl (Lk l i) hl
 have hb:(bA (ET (ET l))).size<=S:=by rw[Cz];exact Zl (IX _) (Zl (IX l) hl)
 unfold AM BG
 split
 ·exact⟨h.ex,h.vs,h.rf,h.lt⟩
 split
 ·refine ⟨fun e he=>?_,h.vs,h.rf,h.lt⟩
  rcases Zs.1 he with he | he
  ·exact h.ex e he
  ·rw[YP.1 he];exact hb
 split
 ·refine ⟨h.ex,fun v hv=>?_,h.rf,h.lt⟩
  rcases Zs.1 hv with hv | hv
  ·exact h.vs v hv
  ·rw[YP.1 hv,Lg]
   exact⟨hw 2,fun x hx=>by simp at hx⟩
 split
 ·refine ⟨h.ex,fun v hv=>?_,h.rf,h.lt⟩
  rcases mem_modL hv with hv | ⟨u,hu,rfl⟩
  ·exact h.vs v hv
  ·refine ⟨(h.vs u hu).1,fun x hx=>?_⟩
   rcases Zs.1 hx with hx | hx
   ·exact (h.vs u hu).2 x hx
   ·rw[YP.1 hx];exact hw 1
 split
 ·refine ⟨h.ex,fun v hv=>?_,h.rf,h.lt⟩
  rcases mem_modL hv with hv | ⟨u,hu,rfl⟩
  ·exact h.vs v hv
  ·refine ⟨(h.vs u hu).1,fun x hx=>?_⟩
   rcases mem_modL hx with hx | ⟨y,hy,rfl⟩
   ·exact (h.vs u hu).2 x hx
   ·exact (h.vs u hu).2 y hy
 split
 ·refine ⟨h.ex,h.vs,fun c hc=>?_,h.lt⟩
  rcases Zs.1 hc with hc | hc
  ·exact h.rf c hc
  ·rw[YP.1 hc,ctQ];exact hw 3
 split
 ·refine ⟨h.ex,h.vs,h.rf,fun c hc=>?_⟩
  rcases Zs.1 hc with hc | hc
  ·exact h.lt c hc
  ·rw[YP.1 hc,ctQ];exact hw 3
 exact h
theorem GP:Fm 0 Ar∧JO 60000 Ar:=
 ⟨⟨by simp[Ar],by simp[Ar],fun v hv=>by simp[Ar] at hv,by simp[Ar],by simp[Ar]⟩,⟨fun v hv=>by simp[Ar] at hv,fun v hv=>by simp[Ar] at hv,fun v hv=>by simp[Ar] at hv,fun v hv=>by simp[Ar] at hv⟩⟩
theorem Fm.dimP {K:Nat}{p:Po}(h:Fm K p)(hK:K<=60000)(hs:JO 60000 p):AJ p:=
 ⟨by have:=h.ex;omega,fun e he=>by have:=hs.ex e he;omega,by have:=h.vs;omega,
  fun v hv=>⟨by have:=(hs.vs v hv).1;omega,by have:=(h.its v hv).1;omega,fun x hx=>⟨by have:=(hs.vs v hv).2 x hx;omega,by have:=(h.its v hv).2 x hx;omega⟩⟩,
  by have:=h.rf;omega,fun c hc=>by have:=hs.rf c hc;omega,by have:=h.lt;omega,fun c hc=>by have:=hs.lt c hc;omega⟩
end
section
open Go Go.RowKit Go.BigFrame Go.Shelf Tryz
theorem F1 {p:Po}(h:Ap p=true):Hc p:=(KV h).1
end
section
open Go Tryz
theorem IU {p:Po}(h:BL p≠⟨#[]⟩):Ap p=true∧BL p=bA (AO p):=by
 unfold BL at h ⊢
 split
 ·next hp=>exact⟨hp,rfl⟩
 ·next hp=>rw[if_neg hp] at h;exact absurd rfl h
theorem Jy (s:ByteArray)(hs:s.data.toList≠[]):Fh s.data.toList=(Gr s.data.toList).bind fun p=>if BL p=s then some p else none:=by
 have ha:s≠⟨#[]⟩:=fun e=>hs (by rw[e])
 cases hM:Gr s.data.toList with
 |none=>
  refine Ga fun p hp e=>?_
  rw[e,Jz (DQ hp)] at hM
  cases hM
 |some p=>
  rw[YO]
  by_cases hp:BL p=s
  ·obtain⟨h1,h2⟩:=IU (p:=p) (by rw[hp];exact ha)
   rw[if_pos hp,<-hp,h2,Af,JA h1]
  ·rw[if_neg hp]
   refine Ga fun q hq e=>?_
   rw[e,Jz (DQ hq)] at hM
   obtain rfl:=Zi hM
   refine hp ?_
   unfold BL
   rw[if_pos hq,<-e]
end
section
open Go Go.RowKit Go.BigFrame Tryz
def Dn (vr:List VQ):Int:=match vr.getLast? with
 |none=>-1
 |some r=>(r.n:Int)-1
theorem FQ {w:World}{B n c i:Nat}{a:Option Addr}{l:List VQ}{r:VQ}(h:Ad VQ.cs 4 tV w B a n c l)(hi:l[i]?=some r):∃ b,a=some ⟨b,0,none⟩∧B<=b∧w.cell? ⟨b,i*4+3,none⟩=some (.slice r.a r.n r.c):=by
 obtain⟨b,o,ha,hc⟩:=h.sl.cell i r hi
 rcases h.own with⟨h0,_⟩ | ⟨b',hb,hB,_⟩
 ·rw[h0] at ha;cases ha
 ·rw[hb] at ha
  cases ha
  exact⟨b,hb,hB,by have:=hc 3 _ rfl;simpa using this⟩
theorem Mf {w:World}{B n c i:Nat}{a:Option Addr}{l:List IQ}{r:IQ}(h:Ad IQ.cs 2 tI w B a n c l)(hi:l[i]?=some r):∃ b,a=some ⟨b,0,none⟩∧B<=b∧w.cell? ⟨b,i*2+1,none⟩=some (.slice r.a r.n r.c):=by
 obtain⟨b,o,ha,hc⟩:=h.sl.cell i r hi
 rcases h.own with⟨h0,_⟩ | ⟨b',hb,hB,_⟩
 ·rw[h0] at ha;cases ha
 ·rw[hb] at ha
  cases ha
  exact⟨b,hb,hB,by have:=hc 1 _ rfl;simpa using this⟩
theorem Cs {α:Type}{l:List α}{n:Nat}(h:l.length=n+1):∃ l' x,l=l'++[x]∧l'.length=n:=by
 have ha:l≠[]:=fun e=>by subst e;simp at h
 refine ⟨l.dropLast,l.getLast ha,(List.dropLast_concat_getLast ha).symm,by simp[h]⟩
def Ft (k:By):Nat:=if k=BA then 0 else if k=exK then 0 else if k=Cl then 0 else if k=Bz then 1 else if k=partK then 2 else if k=B7 then 3 else if k=Bj then 3 else 0
end
end Go.Proofs.YtkiceokhlceciaaGreatDoor
