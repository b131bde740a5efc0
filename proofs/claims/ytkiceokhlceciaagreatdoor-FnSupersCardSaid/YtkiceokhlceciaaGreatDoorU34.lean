/- Texts of pools, read and written; what is drawn. -/
import Derived.Test.YtkiceokhlceciaaGreatDoorU09
import Derived.Test.YtkiceokhlceciaaGreatDoorU15
import Derived.Test.YtkiceokhlceciaaGreatDoorU30
set_option maxHeartbeats 20000000
set_option maxRecDepth 100000
namespace Go.Proofs.YtkiceokhlceciaaGreatDoor
section
open Go Go.RowKit Go.BigFrame Tryz
theorem Da {a b:ByteArray}(h:a.data.toList=b.data.toList):a=b:=by
 cases a;cases b;simp at h;rw[h]
def HQ (k:Nat)(o:ByteArray):ByteArray:=⟨(Lib.decDigits k).toArray⟩++o
theorem JV {k:Nat}(o:ByteArray)(h:10<=k):HQ k o=HQ (k / 10) (strOfNums [48+(k:Int) % 10]++o):=by
 unfold HQ
 rw[Lib.decDigits,dif_neg (by omega)]
 have e:strOfNums [48+(k:Int) % 10]=⟨#[UInt8.ofNat (48+k % 10)]⟩:=by
  unfold strOfNums
  have:(48+(k:Int) % 10).toNat=48+k % 10:=by omega
  simp[this]
 rw[e]
 refine Da ?_
 simp[ByteArray.data_append]
theorem JU {k:Nat}(o:ByteArray)(h:k<10):HQ k o=strOfNums [48+(k:Int)]++o:=by
 unfold HQ
 rw[Lib.decDigits,dif_pos h]
 have e:strOfNums [48+(k:Int)]=⟨#[UInt8.ofNat (48+k)]⟩:=by
  unfold strOfNums
  have:(48+(k:Int)).toNat=48+k:=by omega
  simp[this]
 rw[e]
theorem KA {k:Nat}:AF k=HQ k .empty:=by
 unfold AF HQ Lib.itoa
 rw[if_neg (by omega)]
 refine Da ?_
 simp
theorem Kz {k:Nat}(h:0<k):AF (-(k:Int))=ByteArray.mk #[45]++AF k:=by
 unfold AF Lib.itoa
 rw[if_pos (by omega),if_neg (by omega)]
 refine Da ?_
 simp[ByteArray.data_append]
theorem Es (k:Nat)(w:World)(h2:k<1000000000000) :
  Calls prog 57 #[.int .i64 k] w fun e w'=>e=.returned (.string (AF k))∧Below w.heap.size w w':=by
 have hc:∀ (u:World) (x:Int),(convert 22 9 (.slice (some ⟨u.heap.size,0,none⟩) 1 1)).run prog (u.alloc (.cells #[.int .u8 x] 5))=.ok (.string (strOfNums [x])) (u.alloc (.cells #[.int .u8 x] 5)):=fun u x=>
  run_convert_bytes_arg (P:=prog) _ 22 5 underlying22 underlying5 u.heap.size 0 1 1 [x] rfl (fun i hi=>(by obtain rfl:i=0:=(by omega);simp)) 9 underlying9
 obtain⟨R,hR⟩:∃ R,Hid (AF k=R):=⟨_,rfl⟩
 rw[hR.out]
 go_enter func57,ntmps57
 go_wp2_with fail
 go_loopw [0,3] (fun kk out wr=>∃ (j:Nat) (o:ByteArray),kk=.int .i64 j∧out=.string o∧j<1000000000000∧Hid (∃ m,j<10 ^ m∧o.size+m<=13)∧Hid (R=HQ j o)∧Below w.heap.size w wr) (fun kk _ _=>(intOf kk).toNat)
 case atStart=>exact⟨k,.empty,rfl,rfl,h2,⟨12,by omega,by decide⟩,by show _=_;rw[<-hR.out];exact KA,Yg _ _⟩
 case round=>
  obtain⟨j,o,rfl,rfl,hj,hm,hI,hB⟩:=hrel
  have ho:o.size<=13:=by obtain⟨m,_,h⟩:=hm.out;omega
  by_cases hlt:10<=j
  ·have hb:¬ 9223372036854775807<(strOfNums [48+(j:Int) % 10]).size+o.size:=by rw[strOfNums_size];simp;omega
   have ha:(10:Int)<=j:=by omega
   go_wp2
   go_roundw
   case rel=>
    refine ⟨j / 10,_,by go_num,rfl,by omega,?_,?_,hB.alloc hB.size _⟩
    ·obtain⟨m,h3,h4⟩:=hm.out
     cases m with
     |zero=>simp at h3;omega
     |succ m=>exact⟨m,by rw[Nat.pow_succ] at h3;omega,by rw[kX_,strOfNums_size];simp;omega⟩
    ·show _=_
     rw[hI.out,JV o hlt]
   case measure=>simp[intOf];omega
  ·have hb:¬ 9223372036854775807<(strOfNums [48+(j:Int)]).size+o.size:=by rw[strOfNums_size];simp;omega
   have ha:¬ (10:Int)<=j:=by omega
   go_wp2
   go_returns
   go_light
   refine ⟨?_,hB.alloc hB.size _⟩
   rw[hI.out,JU o (by omega)]
   rfl
theorem Bl (n:Int)(w:World)(h1:-1000000000000<n)(h2:n<1000000000000) :
  Calls prog 57 #[.int .i64 n] w fun e w'=>e=.returned (.string (AF n))∧Below w.heap.size w w':=by
 by_cases h:n<0
 ·obtain⟨k,rfl⟩:∃ k:Nat,n=-(k:Int):=⟨n.natAbs,by omega⟩
  have hk:0<k:=by omega
  have hR:Hid (AF (-(k:Int))=ByteArray.mk #[45]++AF k):=Kz hk
  generalize AF (-(k:Int))=R at *
  have he:=Dw (n:=k) (by omega) (by omega)
  have hc:¬ 9223372036854775807<(ByteArray.mk #[45]).size+(AF k).size:=by show ¬ _<1+_;omega
  have hb:-(-(k:Int))=k:=by omega
  go_enter func57,ntmps57
  go_wp2_with fail
  refine (Es k w (by omega)).mono ?_
  rintro e w1 ⟨rfl,ha⟩
  generalize AF (k:Int)=D at *
  go_wp2
  go_returns
  exact⟨by rw[hR.out];rfl,ha⟩
 ·obtain⟨k,rfl⟩:∃ k:Nat,n=(k:Int):=⟨n.toNat,by omega⟩
  exact Es k w (by omega)
end
section
open Go Go.RowKit Go.BigFrame Go.Shelf Tryz
theorem Do {l:List Pt}{k:Nat}{p:Pt}(h:l[k]?=some p):AT (l.take (k+1))=AT (l.take k)++Ah (ptW p):=by
 unfold AT
 rw[bx_ h,ZQ];simp
theorem EA {l:List It}{k:Nat}{x:It}(h:l[k]?=some x):BY (l.take (k+1))=BY (l.take k)++itW x:=by
 unfold BY
 rw[bx_ h,ZQ];simp
theorem DO {α:Type}(f:α->List UInt8)(l:List α)(k:Nat):((l.take k).flatMap f).length<=(l.flatMap f).length:=by
 conv=>rhs;rw[<-YM k l,ZQ,ZE]
 omega
def BL (p:Po):ByteArray:=if Ap p=true then ⟨(AO p).toArray⟩ else ⟨#[]⟩
theorem B4 {α:Type}{f:α->List UInt8}{l:List α}{k:Nat}{x:α}(h:l[k]?=some x):(l.take (k+1)).flatMap f=(l.take k).flatMap f++f x:=by
 rw[bx_ h,ZQ];simp
theorem BS {α:Type}{f:α->List UInt8}{P:List UInt8}{l:List α}{k:Nat}{x:α}(h:l[k]?=some x)(hl:(P++l.flatMap f).length<=1000000):(P++(l.take k).flatMap f++f x).length<=1000000:=by
 have h1:=DO f l (k+1)
 have h2:=congrArg List.length (B4 (f:=f) h)
 rw[ZE] at h2 hl
 rw[ZE,ZE]
 omega
theorem AG {a b:ByteArray}(h:(a++b).size<=1000000):¬ 9223372036854775807<a.size+b.size∧a.size<=1000000:=by
 rw[kX_] at h;omega
theorem Iq (b:Bool)(w:World):Calls prog 98 #[.bool b] w fun e w'=>e=.returned (.string (Gi b))∧w'=w:=by
 cases b<;>(go_enter func98,ntmps98;go_wp2;go_returns;exact⟨rfl,rfl⟩)
theorem Lt (s word da dv f dn:ByteArray):s++word++⟨#[32]⟩++da++⟨#[32]⟩++dv++⟨#[32]⟩++f++⟨#[32]⟩++dn++⟨#[10]⟩=(⟨(s.data.toList++Ah [word,da,dv,f,dn]).toArray⟩:ByteArray):=by
 refine Da ?_
 unfold Ah
 simp[B6,CJ,ByteArray.data_append]
theorem GL {word:ByteArray}{l:List Ct}{k:Nat}{c:Ct}(h:l[k]?=some c):BC word (l.take (k+1))=BC word (l.take k)++Ah (ctL word c):=B4 h
theorem EL (word:ByteArray)(a:Option Addr)(n cap:Nat)(l:List Ct)(w:World)(h:A8 w a n l)(hn:n<=4194304)(hN:∀ c∈l,Num c.o.a∧Num c.o.v∧Num c.n)(hlen:(BC word l).length<=1000000) :
  Calls prog 99 #[.string word,.slice a n cap] w fun e w'=>e=.returned (.string ⟨(BC word l).toArray⟩)∧Below w.heap.size w w':=by
 have hu:Hid (l.length=n):=h.len
 obtain⟨R,hR⟩:∃ R,Hid (BC word l=R):=⟨_,rfl⟩
 have he:=Hid.mk' hlen
 rw[hR.out]
 clear hlen
 go_enter func99,ntmps99
 go_wp2_with fail
 go_loopw [5,6] (fun s ix wr=>∃ (k:Nat) (o:ByteArray),k<=n∧ix=.int .i64 k∧s=.string o∧Hid (o.data.toList=BC word (l.take k))∧Below w.heap.size w wr) (fun _ ix _=>n-(intOf ix).toNat)
 case atStart=>exact⟨0,.empty,Zg _,rfl,rfl,rfl,Yg _ _⟩
 case round=>
  obtain⟨k,o,hk,rfl,rfl,ho,hB⟩:=hrel
  by_cases hlt:k<n
  ·obtain⟨b,q,c,rfl,hc,c0,c1,c2,c3⟩:=aN_ (h.below hB) hlt
   obtain⟨⟨na1,na2⟩,⟨nv1,nv2⟩,nn1,nn2⟩:=hN c (Zc hc)
   have hx:Hid (BC word (l.take (k+1))=BC word (l.take k)++Ah (ctL word c)):=GL hc
   have hp:=BS (P:=[]) (f:=fun c=>Ah (ctL word c)) hc (by simpa [BC] using he.out)
   have hw:o.size=(BC word (l.take k)).length:=by rw[<-ho.out];rfl
   have hf:=Lt o word (AF c.o.a) (AF c.o.v) c.o.f (AF c.n)
   have hm:=congrArg ByteArray.size hf
   have ha:((⟨(o.data.toList++Ah [word,AF c.o.a,AF c.o.v,c.o.f,AF c.n]).toArray⟩:ByteArray)).size<=1000000:=by
    show (o.data.toList++Ah _).toArray.size<=_
    rw[YI,ho.out]
    simpa [BC,ctL] using hp
   rw[<-hm] at ha
   have hb:Hid (o++word++⟨#[32]⟩++AF c.o.a++⟨#[32]⟩++AF c.o.v++⟨#[32]⟩++c.o.f++⟨#[32]⟩++AF c.n++⟨#[10]⟩=(⟨(o.data.toList++Ah (ctL word c)).toArray⟩:ByteArray)):=hf
   obtain⟨d1,hg⟩:∃ z,Hid (AF c.o.a=z):=⟨_,rfl⟩
   obtain⟨d2,hh⟩:∃ z,Hid (AF c.o.v=z):=⟨_,rfl⟩
   obtain⟨d3,hj⟩:∃ z,Hid (AF c.n=z):=⟨_,rfl⟩
   have k1:∀ u:World,Calls prog 57 #[.int .i64 c.o.a] u fun e w'=>e=.returned (.string d1)∧Below u.heap.size u w':=fun u=>by rw[<-hg.out];exact Bl c.o.a u na1 na2
   have k2:∀ u:World,Calls prog 57 #[.int .i64 c.o.v] u fun e w'=>e=.returned (.string d2)∧Below u.heap.size u w':=fun u=>by rw[<-hh.out];exact Bl c.o.v u nv1 nv2
   have k3:∀ u:World,Calls prog 57 #[.int .i64 c.n] u fun e w'=>e=.returned (.string d3)∧Below u.heap.size u w':=fun u=>by rw[<-hj.out];exact Bl c.n u nn1 nn2
   rw[hg.out,hh.out,hj.out] at ha
   unfold Hid at hb
   rw[hg.out,hh.out,hj.out] at hb
   obtain⟨o',hq⟩:∃ z,Hid (z=(⟨(o.data.toList++Ah (ctL word c)).toArray⟩:ByteArray)):=⟨_,rfl⟩
   replace hb:Hid (_=o'):=hb.trans hq.out.symm
   obtain⟨ff,ht⟩:∃ z,c.o.f=z:=⟨_,rfl⟩
   rw[ht] at ha hb c2
   clear hf hm hp hw hx
   replace ha:(o++word++⟨#[32]⟩++d1++⟨#[32]⟩++d2++⟨#[32]⟩++ff++⟨#[32]⟩++d3++⟨#[10]⟩).size<=1000000:=ha
   obtain⟨e10,ha⟩:=AG ha
   obtain⟨e9,ha⟩:=AG ha
   obtain⟨e8,ha⟩:=AG ha
   obtain⟨e7,ha⟩:=AG ha
   obtain⟨e6,ha⟩:=AG ha
   obtain⟨e5,ha⟩:=AG ha
   obtain⟨e4,ha⟩:=AG ha
   obtain⟨e3,ha⟩:=AG ha
   obtain⟨e2,ha⟩:=AG ha
   obtain⟨e1,ha⟩:=AG ha
   have hl:(k:Int)<n:=by omega
   have q0:=Ac c0
   have q1:=Ac c1
   have q2:=Ac c2
   have q3:=Ac c3
   go_wp2_with fail
   refine ab_ (by kernel_rfl) (by kernel_rfl) ?_
   have hy:=aA_ wr
   iterate 11 (go_big_quiet_step (first | (go_at_call 57;exact an_ (k1 _))))
   iterate 9 (go_big_quiet_step (first | (go_at_call 57;exact an_ (k2 _))))
   iterate 19 (go_big_quiet_step (first | (go_at_call 57;exact an_ (k3 _))))
   refine wpQuiet_nil ?_
   intro w2 hr
   have hs:=Aa hB (ah_ hr)
   clear hr
   go_wp2
   go_roundw
   case rel=>
    refine ⟨k+1,_,by omega,by go_num,rfl,?_,hs⟩
    show _=_
    rw[hb.out,hq.out,GL hc,<-ho.out]
   case measure=>simp[intOf];omega
  ·obtain rfl:k=n:=by omega
   have hl:¬ (k:Int)<k:=by omega
   go_wp2
   go_returns
   rw[Zk (by rw[hu.out];exact Zd _),hR.out] at ho
   have hv:o=⟨R.toArray⟩:=Da (by simpa using ho.out)
   subst hv
   exact⟨rfl,hB⟩
theorem EB {o n:ByteArray}{W P:List UInt8}(hn:n=⟨(o.data.toList++W).toArray⟩)(ho:o.data.toList=P):n.data.toList=P++W:=by
 rw[hn,<-ho]
theorem FO (B0:Nat)(v:Value)(p:Po)(w:World)(h:AW B0 w v p)(hd:AJ p)(hN:Hc p) :
  Calls prog 58 #[v] w fun e w'=>e=.returned (.string ⟨(AO p).toArray⟩)∧Below w.heap.size w w':=by
 obtain⟨ea,en,ec,va,vn,vc,ra,rn,rc,la,ln,lc,rfl,⟨h1,_⟩,⟨h2,_⟩,⟨h3,_⟩,h4,_⟩:=h
 obtain⟨R,hR⟩:∃ R,Hid (AO p=R):=⟨_,rfl⟩
 have hc:=hN.len
 rw[hR.out] at hc
 rw[hR.out]
 obtain⟨L1,hD⟩:∃ x,Hid (Ah (hdW p)=x):=⟨_,rfl⟩
 obtain⟨L2,hL⟩:∃ x,Hid (L1++DN p.ex=x):=⟨_,rfl⟩
 obtain⟨L3,hM⟩:∃ x,Hid (L2++B2 p.vs=x):=⟨_,rfl⟩
 obtain⟨L4,hO⟩:∃ x,Hid (L3++BC DE p.rf=x):=⟨_,rfl⟩
 have h7:Hid (L4++BC B5 p.lt=R):=by show _=_;rw[<-hR.out,<-hO.out,<-hM.out,<-hL.out,<-hD.out];rfl
 have l5:Hid ((L4++BC B5 p.lt).length<=1000000):=by show _<=_;rw[h7.out];exact hc
 have l4:Hid ((L3++BC DE p.rf).length<=1000000):=by have:=l5.out;rw[ZE] at this;show _<=_;rw[hO.out];omega
 have l3:Hid ((L2++B2 p.vs).length<=1000000):=by have:=l4.out;rw[ZE] at this;show _<=_;rw[hM.out];omega
 have l2:Hid ((L1++DN p.ex).length<=1000000):=by have:=l3.out;rw[ZE] at this;show _<=_;rw[hL.out];omega
 have l1:Hid ((Ah (hdW p)).length<=1000000):=by have:=l2.out;rw[ZE,<-hD.out] at this;show _<=_;omega
 have qA:Hid (p.ex.length=en):=h1.len
 have qz:Hid (p.vs.length=vn):=h2.len
 have qM:en<=4194304:=by rw[<-h1.len];exact hd.1
 have qN:vn<=4194304:=by rw[<-h2.len];exact hd.2.2.1
 have qD:rn<=4194304:=by rw[<-h3.len];exact hd.2.2.2.2.1
 have qE:ln<=4194304:=by rw[<-h4.len];exact hd.2.2.2.2.2.2.1
 obtain⟨sz1,sz2⟩:=hN.size
 obtain⟨nx1,nx2⟩:=hN.next
 obtain⟨ds,qe⟩:∃ zz,Hid (AF p.size=zz):=⟨_,rfl⟩
 have kds:∀ u:World,Calls prog 57 #[.int .i64 p.size] u fun e w'=>e=.returned (.string ds)∧Below u.heap.size u w':=fun u=>by rw[<-qe.out];exact Bl p.size u sz1 sz2
 obtain⟨dn,qd⟩:∃ zz,Hid (AF p.next=zz):=⟨_,rfl⟩
 have kdn:∀ u:World,Calls prog 57 #[.int .i64 p.next] u fun e w'=>e=.returned (.string dn)∧Below u.heap.size u w':=fun u=>by rw[<-qd.out];exact Bl p.next u nx1 nx2
 obtain⟨s0,hK⟩:∃ z,Hid (z=(⟨#[112,111,111,108,32]⟩++ds++⟨#[32]⟩++dn++⟨#[10]⟩:ByteArray)):=⟨_,rfl⟩
 have hh:Hid (s0.data.toList=L1):=by
  show _=_
  rw[hK.out,<-hD.out]
  unfold hdW Ah
  rw[qe.out,qd.out]
  simp[B6,CJ,ByteArray.data_append]
 have t0:((⟨#[112,111,111,108,32]⟩:ByteArray)++ds++⟨#[32]⟩++dn++⟨#[10]⟩).size<=1000000:=by
  rw[<-hK.out]
  show s0.data.size<=_
  rw[<-Array.length_toList,hh.out,<-hD.out]
  exact l1.out
 obtain⟨e04,t0⟩:=AG t0
 obtain⟨e03,t0⟩:=AG t0
 obtain⟨e02,t0⟩:=AG t0
 obtain⟨e01,_⟩:=AG t0
 go_enter func58,ntmps58
 have C:=Blk.new w #[.int .i64 p.size,.int .i64 p.next,.slice ea en ec,.slice va vn vc,.slice ra rn rc,.slice la ln lc] 28
 have hn:Below w.heap.size w (w.alloc (.cells #[.int .i64 p.size,.int .i64 p.next,.slice ea en ec,.slice va vn vc,.slice ra rn rc,.slice la ln lc] 28)):=by go_grown
 go_wp2_with fail
 replace h1:=h1.below hn
 replace h2:=h2.below hn
 replace h3:=h3.below hn
 replace h4:=h4.below hn
 generalize w.alloc (.cells #[.int .i64 p.size,.int .i64 p.next,.slice ea en ec,.slice va vn vc,.slice ra rn rc,.slice la ln lc] 28)=W at *
 have q0:=Ac (C.cell 0)
 have q1:=Ac (C.cell 1)
 refine ab_ (by kernel_rfl) (by kernel_rfl) ?_
 have hJ:=aA_ W
 iterate 3 (go_big_quiet_step (first | (go_at_call 57;exact an_ (kds _))))
 iterate 5 (go_big_quiet_step (first | (go_at_call 57;exact an_ (kdn _))))
 iterate 3 (go_big_quiet_step (fail))
 refine wpQuiet_nil ?_
 intro w1 qo
 have h6:=ah_ qo
 rw[<-hK.out]
 clear qo q0 q1 e01 e02 e03 e04 t0
 go_wp2_with fail
 go_loopw [3,4] (fun s ix wr=>∃ (k:Nat) (o:ByteArray),k<=en∧ix=.int .i64 k∧s=.string o∧Hid (o.data.toList=L1++DN (p.ex.take k))∧Below W.heap.size W wr) (fun _ ix _=>en-(intOf ix).toNat)
 case atStart=>exact⟨0,s0,Zg _,rfl,rfl,by show _=_;rw[hh.out];simp[DN],h6⟩
 case round=>
  clear h6 hh hK kds kdn
  obtain⟨k,o,hk,rfl,rfl,ho,hB⟩:=hrel
  have y2:=(C.below hB).cell 2
  by_cases hlt:k<en
  ·obtain⟨eb,eo,x,rfl,hx,c0,c1⟩:=be_ (h1.below hB) hlt
   obtain⟨na1,na2⟩:=hN.ex x (Zc hx)
   have hf:Hid (DN (p.ex.take (k+1))=DN (p.ex.take k)++Ah (exW x)):=B4 hx
   have ha:=BS (f:=fun e=>Ah (exW e)) hx l2.out
   change (L1++DN (p.ex.take k)++Ah (exW x)).length<=1000000 at ha
   rw[<-ho.out] at ha
   obtain⟨da,hg⟩:∃ zz,Hid (AF x.a=zz):=⟨_,rfl⟩
   have kda:∀ u:World,Calls prog 57 #[.int .i64 x.a] u fun e w'=>e=.returned (.string da)∧Below u.heap.size u w':=fun u=>by rw[<-hg.out];exact Bl x.a u na1 na2
   obtain⟨xd,hY⟩:∃ z,Hid (x.d=z):=⟨_,rfl⟩
   unfold exW at ha
   rw[hg.out,hY.out] at ha
   rw[hY.out] at c1
   obtain⟨nA,hV⟩:∃ z,Hid (z=(⟨(o.data.toList++Ah [⟨#[101,120,116,101,110,116]⟩,da,xd]).toArray⟩:ByteArray)):=⟨_,rfl⟩
   have qb:Hid (o++⟨#[101,120,116,101,110,116,32]⟩++da++⟨#[32]⟩++xd++⟨#[10]⟩=nA):=by show _=_;rw[hV.out];refine Da ?_;unfold Ah;simp[B6,CJ,ByteArray.data_append]
   have tA:(o++⟨#[101,120,116,101,110,116,32]⟩++da++⟨#[32]⟩++xd++⟨#[10]⟩).size<=1000000:=by rw[qb.out,hV.out];show (o.data.toList++Ah [⟨#[101,120,116,101,110,116]⟩,da,xd]).toArray.size<=_;rw[YI];exact ha
   obtain⟨eA5,tA⟩:=AG tA
   obtain⟨eA4,tA⟩:=AG tA
   obtain⟨eA3,tA⟩:=AG tA
   obtain⟨eA2,tA⟩:=AG tA
   obtain⟨eA1,tA⟩:=AG tA
   have hU:(k:Int)<en:=by omega
   have q0:=Ac c0
   have q1:=Ac c1
   have q2:=Ac y2
   clear ha c0 c1 tA h2 h3 h4
   go_wp2_with fail
   refine ab_ (by kernel_rfl) (by kernel_rfl) ?_
   have hJ:=aA_ wr
   iterate 9 (go_big_quiet_step (first | (go_at_call 57;exact an_ (kda _))))
   iterate 11 (go_big_quiet_step (fail))
   refine wpQuiet_nil ?_
   intro w2 hA
   have hC:=Aa hB (ah_ hA)
   clear hA
   rw[qb.out]
   go_wp2
   go_roundw
   case rel=>
    refine ⟨k+1,nA,by omega,by go_num,rfl,(EB hV.out ho.out).trans ?_,hC⟩
    rw[hf.out,<-ZC]
    unfold exW
    rw[hg.out,hY.out]
   case measure=>simp[intOf];omega
  ·have qf:¬ (k:Int)<en:=by omega
   have hp:Hid (k=en):=by show _=_;omega
   replace ho:Hid (o.data.toList=L2):=by
    have:=ho.out
    rw[Zk (by rw[qA.out,hp.out];exact Zd _),hL.out] at this
    exact this
   go_wp2_with fail
   clear qf hp hlt hk y2
   go_loopw [3,5] (fun s ix wr=>∃ (k:Nat) (o:ByteArray),k<=vn∧ix=.int .i64 k∧s=.string o∧Hid (o.data.toList=L2++B2 (p.vs.take k))∧Below W.heap.size W wr) (fun _ ix _=>vn-(intOf ix).toNat)
   case atStart=>exact⟨0,o,Zg _,rfl,rfl,by show _=_;rw[ho.out];simp[B2],hB⟩
   case round=>
    clear ho hB h1
    obtain⟨k2,o2,hk,rfl,rfl,ho,hB⟩:=hrel
    have y3:=(C.below hB).cell 3
    by_cases hlt:k2<vn
    ·obtain⟨vb,vo,x,pa,pn,pc,rfl,hx,c0,c1,c2,c3,hI,_,_⟩:=b5_ (h2.below hB) hlt
     obtain⟨⟨na1,na2⟩,qG,qF,qH⟩:=hN.vs x (Zc hx)
     have hf:Hid (B2 (p.vs.take (k2+1))=B2 (p.vs.take k2)++Dr x):=B4 hx
     have ha:=BS (f:=Dr) hx l3.out
     change (L2++B2 (p.vs.take k2)++Dr x).length<=1000000 at ha
     have qB:Hid (x.its.length=pn):=hI.len
     have qO:pn<=4194304:=by rw[<-hI.len];exact qF
     obtain⟨da,hg⟩:∃ zz,Hid (AF x.id=zz):=⟨_,rfl⟩
     have kda:∀ u:World,Calls prog 57 #[.int .i64 x.id] u fun e w'=>e=.returned (.string da)∧Below u.heap.size u w':=fun u=>by rw[<-hg.out];exact Bl x.id u na1 na2
     obtain⟨xn,h0⟩:∃ z,Hid (x.nm=z):=⟨_,rfl⟩
     obtain⟨xf,hZ⟩:∃ z,Hid (x.fx=z):=⟨_,rfl⟩
     obtain⟨fl,hT⟩:∃ z,Hid (Gi xf=z):=⟨_,rfl⟩
     have kfl:∀ u:World,Calls prog 98 #[.bool xf] u fun e w'=>e=.returned (.string fl)∧w'=u:=fun u=>by rw[<-hT.out];exact Iq xf u
     rw[h0.out] at c1
     rw[hZ.out] at c2
     obtain⟨Lv,hF⟩:∃ z,Hid (L2++B2 (p.vs.take k2)++Ah (voW x)=z):=⟨_,rfl⟩
     have hX:Hid (voW x=[⟨#[118,111,108,117,109,101]⟩,da,xn,fl]):=by show _=_;unfold voW;rw[hg.out,h0.out,hZ.out,hT.out]
     have hv:Hid (L2++B2 (p.vs.take (k2+1))=Lv++BY x.its):=by show _=_;rw[hf.out,<-hF.out];unfold Dr;simp
     have hq:Hid ((Lv++BY x.its).length<=1000000):=by show _<=_;rw[<-hv.out,hf.out,<-ZC];exact ha
     have he:(o2.data.toList++Ah [⟨#[118,111,108,117,109,101]⟩,da,xn,fl]).length<=1000000:=by
      have:=hq.out
      rw[ZE,<-hF.out,hX.out,<-ho.out] at this
      omega
     clear ha
     obtain⟨nB,hG⟩:∃ z,Hid (z=(⟨(o2.data.toList++Ah [⟨#[118,111,108,117,109,101]⟩,da,xn,fl]).toArray⟩:ByteArray)):=⟨_,rfl⟩
     have hQ:Hid (o2++⟨#[118,111,108,117,109,101,32]⟩++da++⟨#[32]⟩++xn++⟨#[32]⟩++fl++⟨#[10]⟩=nB):=by show _=_;rw[hG.out];refine Da ?_;unfold Ah;simp[B6,CJ,ByteArray.data_append]
     have tB:(o2++⟨#[118,111,108,117,109,101,32]⟩++da++⟨#[32]⟩++xn++⟨#[32]⟩++fl++⟨#[10]⟩).size<=1000000:=by rw[hQ.out,hG.out];show (o2.data.toList++Ah [⟨#[118,111,108,117,109,101]⟩,da,xn,fl]).toArray.size<=_;rw[YI];exact he
     obtain⟨eB7,tB⟩:=AG tB
     obtain⟨eB6,tB⟩:=AG tB
     obtain⟨eB5,tB⟩:=AG tB
     obtain⟨eB4,tB⟩:=AG tB
     obtain⟨eB3,tB⟩:=AG tB
     obtain⟨eB2,tB⟩:=AG tB
     obtain⟨eB1,tB⟩:=AG tB
     have hU:(k2:Int)<vn:=by omega
     clear he tB hf
     go_wp2_with fail
     have D:=Blk.new wr #[.int .i64 x.id,.string xn,.bool xf,.slice pa pn pc] 80
     have qv:Below W.heap.size W (wr.alloc (.cells #[.int .i64 x.id,.string xn,.bool xf,.slice pa pn pc] 80)):=hB.alloc hB.size _
     have qw:=hI.below (hb:=(Yg _ wr).alloc (Zd _) (.cells #[.int .i64 x.id,.string xn,.bool xf,.slice pa pn pc] 80))
     clear c0 c1 c2 c3 y3 hI
     generalize wr.alloc (.cells #[.int .i64 x.id,.string xn,.bool xf,.slice pa pn pc] 80)=V at *
     have q0:=Ac (D.cell 0)
     have q1:=Ac (D.cell 1)
     have q2:=Ac (D.cell 2)
     refine ab_ (by kernel_rfl) (by kernel_rfl) ?_
     have hJ:=aA_ V
     iterate 5 (go_big_quiet_step (first | (go_at_call 57;exact an_ (kda _))))
     iterate 9 (go_big_quiet_step (first | (go_at_call 98;exact am_ (kfl _))))
     iterate 3 (go_big_quiet_step (fail))
     refine wpQuiet_nil ?_
     intro w2 hA
     have hC:=ah_ hA
     clear hA q0 q1 q2 kda kfl
     rw[hQ.out]
     have ql:Hid (nB.data.toList=Lv):=(EB hG.out ho.out).trans (by rw[<-hF.out,hX.out])
     clear hG hQ hX hF hg h0 hZ hT ho hB
     go_wp2_with fail
     go_loopw [3,7] (fun s ix wr=>∃ (k:Nat) (o:ByteArray),k<=pn∧ix=.int .i64 k∧s=.string o∧Hid (o.data.toList=Lv++BY (x.its.take k))∧Below V.heap.size V wr) (fun _ ix _=>pn-(intOf ix).toNat)
     case atStart=>exact⟨0,nB,Zg _,rfl,rfl,by show _=_;rw[ql.out];simp[BY],hC⟩
     case round=>
      clear ql hC
      obtain⟨j,o3,hj,rfl,rfl,ho,hB⟩:=hrel
      obtain⟨wj,rfl⟩:∃ z,z=wr:=⟨_,rfl⟩
      have y3:=(D.below hB).cell 3
      by_cases hltj:j<pn
      ·obtain⟨ib,io,y,ga,gn,gc,rfl,hy,c0,c1,hP,_,_,_⟩:=bO_ (qw.below hB) hltj
       have qr:=Zc hy
       have qI:=qG y qr
       have qx:Hid (y.ps.length=gn):=hP.len
       have qJ:gn<=4194304:=by rw[<-hP.len];exact qH y qr
       have hf:Hid (BY (x.its.take (j+1))=BY (x.its.take j)++itW y):=EA hy
       have ha:=BS (f:=itW) hy hq.out
       change (Lv++BY (x.its.take j)++itW y).length<=1000000 at ha
       obtain⟨yn,h5⟩:∃ z,Hid (y.nm=z):=⟨_,rfl⟩
       rw[h5.out] at c0
       obtain⟨Lf,hE⟩:∃ z,Hid (Lv++BY (x.its.take j)++Ah [⟨#[102,105,108,101]⟩,yn]=z):=⟨_,rfl⟩
       have hw:Hid (Lv++BY (x.its.take (j+1))=Lf++AT y.ps):=by show _=_;rw[hf.out,<-hE.out];unfold itW;rw[h5.out];simp
       have qi:Hid ((Lf++AT y.ps).length<=1000000):=by show _<=_;rw[<-hw.out,hf.out,<-ZC];exact ha
       have he:(o3.data.toList++Ah [⟨#[102,105,108,101]⟩,yn]).length<=1000000:=by
        have:=qi.out
        rw[ZE,<-hE.out,<-ho.out] at this
        omega
       clear ha
       obtain⟨nF,hH⟩:∃ z,Hid (z=(⟨(o3.data.toList++Ah [⟨#[102,105,108,101]⟩,yn]).toArray⟩:ByteArray)):=⟨_,rfl⟩
       have hS:Hid (o3++⟨#[102,105,108,101,32]⟩++yn++⟨#[10]⟩=nF):=by show _=_;rw[hH.out];refine Da ?_;unfold Ah;simp[B6,CJ,ByteArray.data_append]
       have tF:(o3++⟨#[102,105,108,101,32]⟩++yn++⟨#[10]⟩).size<=1000000:=by rw[hS.out,hH.out];show (o3.data.toList++Ah [⟨#[102,105,108,101]⟩,yn]).toArray.size<=_;rw[YI];exact he
       obtain⟨eF3,tF⟩:=AG tF
       obtain⟨eF2,tF⟩:=AG tF
       obtain⟨eF1,tF⟩:=AG tF
       have qj:(j:Int)<pn:=by omega
       clear he tF hf
       have qm:Hid (nF.data.toList=Lf):=(EB hH.out ho.out).trans hE.out
       go_wp2_with fail
       rw[hS.out]
       clear hS hH hE ho h5 eF1 eF2 eF3
       go_loopw [3,8] (fun s ix wr=>∃ (m:Nat) (o:ByteArray),m<=gn∧ix=.int .i64 m∧s=.string o∧Hid (o.data.toList=Lf++AT (y.ps.take m))∧Below wj.heap.size wj wr) (fun _ ix _=>gn-(intOf ix).toNat)
       case atStart=>exact⟨0,nF,Zg _,rfl,rfl,by show _=_;rw[qm.out];simp[AT],Yg _ _⟩
       case round=>
        clear qm
        obtain⟨m,o4,hm,rfl,rfl,ho,hl⟩:=hrel
        have c1':=Ab hl c1
        have y3':=Ab hl y3
        by_cases hltm:m<gn
        ·obtain⟨gb,go,z,rfl,hz,d0,d1,d2⟩:=bi_ (hP.below hl) hltm
         obtain⟨⟨za1,za2⟩,⟨zf1,zf2⟩,zn1,zn2⟩:=qI z (Zc hz)
         have hf:Hid (AT (y.ps.take (m+1))=AT (y.ps.take m)++Ah (ptW z)):=Do hz
         have ha:=BS (f:=fun q=>Ah (ptW q)) hz qi.out
         change (Lf++AT (y.ps.take m)++Ah (ptW z)).length<=1000000 at ha
         rw[<-ho.out] at ha
         obtain⟨pa1,hr⟩:∃ zz,Hid (AF z.a=zz):=⟨_,rfl⟩
         have kpa1:∀ u:World,Calls prog 57 #[.int .i64 z.a] u fun e w'=>e=.returned (.string pa1)∧Below u.heap.size u w':=fun u=>by rw[<-hr.out];exact Bl z.a u za1 za2
         obtain⟨pf1,hs⟩:∃ zz,Hid (AF z.f=zz):=⟨_,rfl⟩
         have kpf1:∀ u:World,Calls prog 57 #[.int .i64 z.f] u fun e w'=>e=.returned (.string pf1)∧Below u.heap.size u w':=fun u=>by rw[<-hs.out];exact Bl z.f u zf1 zf2
         obtain⟨pn1,ht⟩:∃ zz,Hid (AF z.n=zz):=⟨_,rfl⟩
         have kpn1:∀ u:World,Calls prog 57 #[.int .i64 z.n] u fun e w'=>e=.returned (.string pn1)∧Below u.heap.size u w':=fun u=>by rw[<-ht.out];exact Bl z.n u zn1 zn2
         have qn:Hid (ptW z=[⟨#[112,97,114,116]⟩,pa1,pf1,pn1]):=by show _=_;unfold ptW;rw[hr.out,hs.out,ht.out]
         rw[qn.out] at ha
         obtain⟨nG,hW⟩:∃ z,Hid (z=(⟨(o4.data.toList++Ah [⟨#[112,97,114,116]⟩,pa1,pf1,pn1]).toArray⟩:ByteArray)):=⟨_,rfl⟩
         have qc:Hid (o4++⟨#[112,97,114,116,32]⟩++pa1++⟨#[32]⟩++pf1++⟨#[32]⟩++pn1++⟨#[10]⟩=nG):=by show _=_;rw[hW.out];refine Da ?_;unfold Ah;simp[B6,CJ,ByteArray.data_append]
         have tG:(o4++⟨#[112,97,114,116,32]⟩++pa1++⟨#[32]⟩++pf1++⟨#[32]⟩++pn1++⟨#[10]⟩).size<=1000000:=by rw[qc.out,hW.out];show (o4.data.toList++Ah [⟨#[112,97,114,116]⟩,pa1,pf1,pn1]).toArray.size<=_;rw[YI];exact ha
         obtain⟨eG7,tG⟩:=AG tG
         obtain⟨eG6,tG⟩:=AG tG
         obtain⟨eG5,tG⟩:=AG tG
         obtain⟨eG4,tG⟩:=AG tG
         obtain⟨eG3,tG⟩:=AG tG
         obtain⟨eG2,tG⟩:=AG tG
         obtain⟨eG1,tG⟩:=AG tG
         have qk:(m:Int)<gn:=by omega
         clear ha tG
         go_wp2_with fail
         have E:=Blk.new wr #[.int .i64 z.a,.int .i64 z.f,.int .i64 z.n] 124
         have qu:Below wj.heap.size wj (wr.alloc (.cells #[.int .i64 z.a,.int .i64 z.f,.int .i64 z.n] 124)):=hl.alloc hl.size _
         clear d0 d1 d2 c1' y3'
         generalize wr.alloc (.cells #[.int .i64 z.a,.int .i64 z.f,.int .i64 z.n] 124)=V2 at *
         have q0:=Ac (E.cell 0)
         have q1:=Ac (E.cell 1)
         have q2:=Ac (E.cell 2)
         refine ab_ (by kernel_rfl) (by kernel_rfl) ?_
         have hJ:=aA_ V2
         iterate 5 (go_big_quiet_step (first | (go_at_call 57;exact an_ (kpa1 _))))
         iterate 5 (go_big_quiet_step (first | (go_at_call 57;exact an_ (kpf1 _))))
         iterate 5 (go_big_quiet_step (first | (go_at_call 57;exact an_ (kpn1 _))))
         iterate 3 (go_big_quiet_step (fail))
         refine wpQuiet_nil ?_
         intro w5 qp
         have qs:=Aa qu (ah_ qp)
         clear qp q0 q1 q2
         rw[qc.out]
         go_wp2
         go_roundw
         case rel=>
          refine ⟨m+1,nG,by omega,by go_num,rfl,(EB hW.out ho.out).trans ?_,qs⟩
          rw[hf.out,<-ZC,qn.out]
         case measure=>simp[intOf];omega
        ·have qL:¬ (m:Int)<gn:=by omega
         have qC:Hid (m=gn):=by show _=_;omega
         replace ho:Hid (o4.data.toList=Lf++AT y.ps):=by
          have:=ho.out
          rw[Zk (by rw[qx.out,qC.out];exact Zd _)] at this
          exact this
         go_wp2
         go_roundw
         case rel=>exact⟨j+1,o4,by omega,by go_num,rfl,ho.out.trans hw.out.symm,Aa hB hl⟩
         case measure=>simp[intOf];omega
      ·have qK:¬ (j:Int)<pn:=by omega
       have qy:Hid (j=pn):=by show _=_;omega
       replace ho:Hid (o3.data.toList=Lv++BY x.its):=by
        have:=ho.out
        rw[Zk (by rw[qB.out,qy.out];exact Zd _)] at this
        exact this
       go_wp2
       go_roundw
       case rel=>exact⟨k2+1,o3,by omega,by go_num,rfl,ho.out.trans hv.out.symm,Aa qv hB⟩
       case measure=>simp[intOf];omega
    ·have qf:¬ (k2:Int)<vn:=by omega
     have hp:Hid (k2=vn):=by show _=_;omega
     replace ho:Hid (o2.data.toList=L3):=by
      have:=ho.out
      rw[Zk (by rw[qz.out,hp.out];exact Zd _),hM.out] at this
      exact this
     obtain⟨T1,h8⟩:∃ z:ByteArray,Hid (⟨(BC DE p.rf).toArray⟩=z):=⟨_,rfl⟩
     obtain⟨T2,h9⟩:∃ z:ByteArray,Hid (⟨(BC B5 p.lt).toArray⟩=z):=⟨_,rfl⟩
     have qg:(BC DE p.rf).length<=1000000:=by have:=l4.out;rw[ZE] at this;omega
     have qh:(BC B5 p.lt).length<=1000000:=by have:=l5.out;rw[ZE] at this;omega
     have r1:∀ u:World,Below wr.heap.size wr u->Calls prog 99 #[.string ⟨#[114,101,102]⟩,.slice ra rn rc] u fun e w'=>e=.returned (.string T1)∧Below u.heap.size u w':=fun u hu=>by rw[<-h8.out];exact EL DE ra rn rc p.rf u ((h3.below hB).below hu) qD hN.rf qg
     have r2:∀ u:World,Below wr.heap.size wr u->Calls prog 99 #[.string ⟨#[108,97,116,101]⟩,.slice la ln lc] u fun e w'=>e=.returned (.string T2)∧Below u.heap.size u w':=fun u hu=>by rw[<-h9.out];exact EL B5 la ln lc p.lt u ((h4.below hB).below hu) qE hN.lt qh
     have qa:Hid (o2++T1++T2=⟨R.toArray⟩):=by
      show _=_
      rw[<-h8.out,<-h9.out]
      refine Da ?_
      rw[<-h7.out,<-hO.out,<-ho.out]
      simp[ByteArray.data_append]
     have tR:(o2++T1++T2).size<=1000000:=by rw[qa.out];show R.toArray.size<=_;rw[YI];exact hc
     obtain⟨e2,tR⟩:=AG tR
     obtain⟨e1,tR⟩:=AG tR
     have q4:=Ac ((C.below hB).cell 4)
     have q5:=Ac ((C.below hB).cell 5)
     clear hp tR qg qh
     go_wp2_with fail
     refine ab_ (by kernel_rfl) (by kernel_rfl) ?_
     have hJ:=aA_ wr
     iterate 4 (go_big_quiet_step (first | (go_at_call 99;exact an_ (r1 _ (Grw.h _)))))
     iterate 4 (go_big_quiet_step (first | (go_at_call 99;exact an_ (r2 _ (Grw.h _)))))
     iterate 2 (go_big_quiet_step (fail))
     refine wpQuiet_nil ?_
     intro w6 qq
     have qt:=Aa (Aa hn hB) (ah_ qq)
     clear qq
     rw[qa.out]
     go_wp2
     go_returns
     exact⟨rfl,qt⟩
theorem EK (B0:Nat)(hB0:0<B0)(v:Value)(p:Po)(w:World)(h:AW B0 w v p)(hd:AJ p)(hN:Ap p=true->Hc p) :
  Calls prog 28 #[v] w fun e w'=>e=.returned (.string (BL p))∧Below w.heap.size w w':=by
 have he:=h
 obtain⟨ea,en,ec,va,vn,vc,ra,rn,rc,la,ln,lc,rfl,_⟩:=h
 have C:=Blk.new w #[.int .i64 p.size,.int .i64 p.next,.slice ea en ec,.slice va vn vc,.slice ra rn rc,.slice la ln lc] 28
 cases hp:Ap p
 ·have hO:BL p=⟨#[]⟩:=by unfold BL;rw[hp];rfl
  rw[hO]
  go_enter func28,ntmps28
  go_wp2_with fail
  refine (ep_ B0 hB0 _ p _ (he.below (by go_grown)) hd).mono ?_
  rintro e w1 ⟨rfl,hc⟩
  have ha:Below w.heap.size w w1:=Aa (by go_grown) hc
  clear hc he C
  rw[hp]
  go_wp2_with fail
  go_returns
  exact⟨rfl,ha⟩
 ·have hO:BL p=⟨(AO p).toArray⟩:=by unfold BL;rw[hp];rfl
  rw[hO]
  have hg:=hN hp
  obtain⟨T,hT⟩:∃ z,Hid ((⟨(AO p).toArray⟩:ByteArray)=z):=⟨_,rfl⟩
  have hb:=fun (u:World) (hu:Below w.heap.size w u)=>FO B0 _ p u (he.below hu) hd hg
  rw[hT.out] at hb
  rw[hT.out]
  go_enter func28,ntmps28
  go_wp2_with fail
  refine (ep_ B0 hB0 _ p _ (he.below (by go_grown)) hd).mono ?_
  rintro e w1 ⟨rfl,hc⟩
  have ha:Below w.heap.size w w1:=Aa (by go_grown) hc
  replace C:=C.below hc
  have c0:=C.cell 0
  have c1:=C.cell 1
  have c2:=C.cell 2
  have c3:=C.cell 3
  have c4:=C.cell 4
  have c5:=C.cell 5
  clear hc he C
  rw[hp]
  go_wp2_with fail
  refine (hb w1 ha).mono ?_
  rintro e w2 ⟨rfl,hf⟩
  go_wp2
  go_returns
  exact⟨rfl,Aa ha hf⟩
end
end Go.Proofs.YtkiceokhlceciaaGreatDoor
