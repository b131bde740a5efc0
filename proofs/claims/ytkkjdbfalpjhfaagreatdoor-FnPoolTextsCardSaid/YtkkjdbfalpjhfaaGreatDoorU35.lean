/- Texts of pools, read and written; what is drawn. -/
import Derived.Test.YtkkjdbfalpjhfaaGreatDoorU08
import Derived.Test.YtkkjdbfalpjhfaaGreatDoorU14
import Derived.Test.YtkkjdbfalpjhfaaGreatDoorU29
set_option maxHeartbeats 20000000
set_option maxRecDepth 100000
namespace Go.Proofs.YtkkjdbfalpjhfaaGreatDoor
section
open Go Go.RowKit Go.BigFrame Tryz
theorem Dd {a b:ByteArray}(h:a.data.toList=b.data.toList):a=b:=by
 cases a;cases b;simp at h;rw[h]
def Hg (k:Nat)(o:ByteArray):ByteArray:=⟨(Lib.decDigits k).toArray⟩++o
theorem Jh {k:Nat}(o:ByteArray)(h:10<=k):Hg k o=Hg (k / 10) (strOfNums [48+(k:Int) % 10]++o):=by
 unfold Hg
 rw[Lib.decDigits,dif_neg (by omega)]
 have e:strOfNums [48+(k:Int) % 10]=⟨#[UInt8.ofNat (48+k % 10)]⟩:=by
  unfold strOfNums
  have:(48+(k:Int) % 10).toNat=48+k % 10:=by omega
  simp[this]
 rw[e]
 refine Dd ?_
 simp[ByteArray.data_append]
theorem Jg {k:Nat}(o:ByteArray)(h:k<10):Hg k o=strOfNums [48+(k:Int)]++o:=by
 unfold Hg
 rw[Lib.decDigits,dif_pos h]
 have e:strOfNums [48+(k:Int)]=⟨#[UInt8.ofNat (48+k)]⟩:=by
  unfold strOfNums
  have:(48+(k:Int)).toNat=48+k:=by omega
  simp[this]
 rw[e]
theorem JV {k:Nat}:AK k=Hg k .empty:=by
 unfold AK Hg Lib.itoa
 rw[if_neg (by omega)]
 refine Dd ?_
 simp
theorem JU {k:Nat}(h:0<k):AK (-(k:Int))=ByteArray.mk #[45]++AK k:=by
 unfold AK Lib.itoa
 rw[if_pos (by omega),if_neg (by omega)]
 refine Dd ?_
 simp[ByteArray.data_append]
theorem Eb (k:Nat)(w:World)(h2:k<1000000000000) :
  Calls prog 58 #[.int .i64 k] w fun e w'=>e=.returned (.string (AK k))∧Below w.heap.size w w':=by
 have hc:∀ (u:World) (x:Int),(convert 22 9 (.slice (some ⟨u.heap.size,0,none⟩) 1 1)).run prog (u.alloc (.cells #[.int .u8 x] 5))=.ok (.string (strOfNums [x])) (u.alloc (.cells #[.int .u8 x] 5)):=fun u x=>
  run_convert_bytes_arg (P:=prog) _ 22 5 underlying22 underlying5 u.heap.size 0 1 1 [x] rfl (fun i hi=>(by obtain rfl:i=0:=(by omega);simp)) 9 underlying9
 obtain⟨R,hR⟩:∃ R,Hid (AK k=R):=⟨_,rfl⟩
 rw[hR.out]
 go_enter func58,ntmps58
 go_wp2_with fail
 go_loopw [0,3] (fun kk out wr=>∃ (j:Nat) (o:ByteArray),kk=.int .i64 j∧out=.string o∧j<1000000000000∧Hid (∃ m,j<10 ^ m∧o.size+m<=13)∧Hid (R=Hg j o)∧Below w.heap.size w wr) (fun kk _ _=>(intOf kk).toNat)
 case atStart=>exact⟨k,.empty,rfl,rfl,h2,⟨12,by omega,by decide⟩,by show _=_;rw[<-hR.out];exact JV,Yg _ _⟩
 case round=>
  obtain⟨j,o,rfl,rfl,hj,hm,hI,hB⟩:=hrel
  have ho:o.size<=13:=by obtain⟨m,_,h⟩:=hm.out;omega
  by_cases hlt:10<=j
  ·have hb:¬ 9223372036854775807<(strOfNums [48+(j:Int) % 10]).size+o.size:=by rw[strOfNums_size];simp;omega
   have ha:(10:Int)<=j:=by omega
   go_wp2
   go_roundw
   case rel=>
    refine ⟨j / 10,_,by go_num,rfl,by omega,?_,?_,hB.alloc hB.size _⟩
    ·obtain⟨m,h3,h4⟩:=hm.out
     cases m with
     |zero=>simp at h3;omega
     |succ m=>exact⟨m,by rw[Nat.pow_succ] at h3;omega,by rw[kX_,strOfNums_size];simp;omega⟩
    ·show _=_
     rw[hI.out,Jh o hlt]
   case measure=>simp[intOf];omega
  ·have hb:¬ 9223372036854775807<(strOfNums [48+(j:Int)]).size+o.size:=by rw[strOfNums_size];simp;omega
   have ha:¬ (10:Int)<=j:=by omega
   go_wp2
   go_returns
   go_light
   refine ⟨?_,hB.alloc hB.size _⟩
   rw[hI.out,Jg o (by omega)]
   rfl
theorem Bn (n:Int)(w:World)(h1:-1000000000000<n)(h2:n<1000000000000) :
  Calls prog 58 #[.int .i64 n] w fun e w'=>e=.returned (.string (AK n))∧Below w.heap.size w w':=by
 by_cases h:n<0
 ·obtain⟨k,rfl⟩:∃ k:Nat,n=-(k:Int):=⟨n.natAbs,by omega⟩
  have hk:0<k:=by omega
  have hR:Hid (AK (-(k:Int))=ByteArray.mk #[45]++AK k):=JU hk
  generalize AK (-(k:Int))=R at *
  have he:=Gj (n:=k) (by omega) (by omega)
  have hc:¬ 9223372036854775807<(ByteArray.mk #[45]).size+(AK k).size:=by show ¬ _<1+_;omega
  have hb:-(-(k:Int))=k:=by omega
  go_enter func58,ntmps58
  go_wp2_with fail
  refine (Eb k w (by omega)).mono ?_
  rintro e w1 ⟨rfl,ha⟩
  generalize AK (k:Int)=D at *
  go_wp2
  go_returns
  exact⟨by rw[hR.out];rfl,ha⟩
 ·obtain⟨k,rfl⟩:∃ k:Nat,n=(k:Int):=⟨n.toNat,by omega⟩
  exact Eb k w (by omega)
end
section
open Go Go.RowKit Go.BigFrame Go.Shelf Tryz
theorem Dc {l:List Pt}{k:Nat}{p:Pt}(h:l[k]?=some p):AQ (l.take (k+1))=AQ (l.take k)++Ah (ptW p):=by
 unfold AQ
 rw[bx_ h,ZQ];simp
theorem Ej {l:List It}{k:Nat}{x:It}(h:l[k]?=some x):BT (l.take (k+1))=BT (l.take k)++itW x:=by
 unfold BT
 rw[bx_ h,ZQ];simp
theorem Dy {α:Type}(f:α->List UInt8)(l:List α)(k:Nat):((l.take k).flatMap f).length<=(l.flatMap f).length:=by
 conv=>rhs;rw[<-YM k l,ZQ,ZE]
 omega
def BW (p:Po):ByteArray:=if At p=true then ⟨(Bq p).toArray⟩ else ⟨#[]⟩
theorem BZ {α:Type}{f:α->List UInt8}{l:List α}{k:Nat}{x:α}(h:l[k]?=some x):(l.take (k+1)).flatMap f=(l.take k).flatMap f++f x:=by
 rw[bx_ h,ZQ];simp
theorem BO {α:Type}{f:α->List UInt8}{P:List UInt8}{l:List α}{k:Nat}{x:α}(h:l[k]?=some x)(hl:(P++l.flatMap f).length<=1000000):(P++(l.take k).flatMap f++f x).length<=1000000:=by
 have h1:=Dy f l (k+1)
 have h2:=congrArg List.length (BZ (f:=f) h)
 rw[ZE] at h2 hl
 rw[ZE,ZE]
 omega
theorem AC {a b:ByteArray}(h:(a++b).size<=1000000):¬ 9223372036854775807<a.size+b.size∧a.size<=1000000:=by
 rw[kX_] at h;omega
theorem HP (b:Bool)(w:World):Calls prog 59 #[.bool b] w fun e w'=>e=.returned (.string (FS b))∧w'=w:=by
 cases b<;>(go_enter func59,ntmps59;go_wp2;go_returns;exact⟨rfl,rfl⟩)
theorem KH (s word da dv f dn:ByteArray):s++word++⟨#[32]⟩++da++⟨#[32]⟩++dv++⟨#[32]⟩++f++⟨#[32]⟩++dn++⟨#[10]⟩=(⟨(s.data.toList++Ah [word,da,dv,f,dn]).toArray⟩:ByteArray):=by
 refine Dd ?_
 unfold Ah
 simp[B3,Cx,ByteArray.data_append]
theorem Gi {word:ByteArray}{l:List Ct}{k:Nat}{c:Ct}(h:l[k]?=some c):Br word (l.take (k+1))=Br word (l.take k)++Ah (ctL word c):=BZ h
theorem Eu (word:ByteArray)(a:Option Addr)(n cap:Nat)(l:List Ct)(w:World)(h:A4 w a n l)(hn:n<=4194304)(hN:∀ c∈l,Num c.o.a∧Num c.o.v∧Num c.n)(hlen:(Br word l).length<=1000000) :
  Calls prog 60 #[.string word,.slice a n cap] w fun e w'=>e=.returned (.string ⟨(Br word l).toArray⟩)∧Below w.heap.size w w':=by
 have hu:Hid (l.length=n):=h.len
 obtain⟨R,hR⟩:∃ R,Hid (Br word l=R):=⟨_,rfl⟩
 have he:=Hid.mk' hlen
 rw[hR.out]
 clear hlen
 go_enter func60,ntmps60
 go_wp2_with fail
 go_loopw [5,6] (fun s ix wr=>∃ (k:Nat) (o:ByteArray),k<=n∧ix=.int .i64 k∧s=.string o∧Hid (o.data.toList=Br word (l.take k))∧Below w.heap.size w wr) (fun _ ix _=>n-(intOf ix).toNat)
 case atStart=>exact⟨0,.empty,Zg _,rfl,rfl,rfl,Yg _ _⟩
 case round=>
  obtain⟨k,o,hk,rfl,rfl,ho,hB⟩:=hrel
  by_cases hlt:k<n
  ·obtain⟨b,q,c,rfl,hc,c0,c1,c2,c3⟩:=aN_ (h.below hB) hlt
   obtain⟨⟨na1,na2⟩,⟨nv1,nv2⟩,nn1,nn2⟩:=hN c (Zc hc)
   have hx:Hid (Br word (l.take (k+1))=Br word (l.take k)++Ah (ctL word c)):=Gi hc
   have hp:=BO (P:=[]) (f:=fun c=>Ah (ctL word c)) hc (by simpa [Br] using he.out)
   have hw:o.size=(Br word (l.take k)).length:=by rw[<-ho.out];rfl
   have hf:=KH o word (AK c.o.a) (AK c.o.v) c.o.f (AK c.n)
   have hm:=congrArg ByteArray.size hf
   have ha:((⟨(o.data.toList++Ah [word,AK c.o.a,AK c.o.v,c.o.f,AK c.n]).toArray⟩:ByteArray)).size<=1000000:=by
    show (o.data.toList++Ah _).toArray.size<=_
    rw[YI,ho.out]
    simpa [Br,ctL] using hp
   rw[<-hm] at ha
   have hb:Hid (o++word++⟨#[32]⟩++AK c.o.a++⟨#[32]⟩++AK c.o.v++⟨#[32]⟩++c.o.f++⟨#[32]⟩++AK c.n++⟨#[10]⟩=(⟨(o.data.toList++Ah (ctL word c)).toArray⟩:ByteArray)):=hf
   obtain⟨d1,hg⟩:∃ z,Hid (AK c.o.a=z):=⟨_,rfl⟩
   obtain⟨d2,hh⟩:∃ z,Hid (AK c.o.v=z):=⟨_,rfl⟩
   obtain⟨d3,hj⟩:∃ z,Hid (AK c.n=z):=⟨_,rfl⟩
   have k1:∀ u:World,Calls prog 58 #[.int .i64 c.o.a] u fun e w'=>e=.returned (.string d1)∧Below u.heap.size u w':=fun u=>by rw[<-hg.out];exact Bn c.o.a u na1 na2
   have k2:∀ u:World,Calls prog 58 #[.int .i64 c.o.v] u fun e w'=>e=.returned (.string d2)∧Below u.heap.size u w':=fun u=>by rw[<-hh.out];exact Bn c.o.v u nv1 nv2
   have k3:∀ u:World,Calls prog 58 #[.int .i64 c.n] u fun e w'=>e=.returned (.string d3)∧Below u.heap.size u w':=fun u=>by rw[<-hj.out];exact Bn c.n u nn1 nn2
   rw[hg.out,hh.out,hj.out] at ha
   unfold Hid at hb
   rw[hg.out,hh.out,hj.out] at hb
   obtain⟨o',hq⟩:∃ z,Hid (z=(⟨(o.data.toList++Ah (ctL word c)).toArray⟩:ByteArray)):=⟨_,rfl⟩
   replace hb:Hid (_=o'):=hb.trans hq.out.symm
   obtain⟨ff,ht⟩:∃ z,c.o.f=z:=⟨_,rfl⟩
   rw[ht] at ha hb c2
   clear hf hm hp hw hx
   replace ha:(o++word++⟨#[32]⟩++d1++⟨#[32]⟩++d2++⟨#[32]⟩++ff++⟨#[32]⟩++d3++⟨#[10]⟩).size<=1000000:=ha
   obtain⟨e10,ha⟩:=AC ha
   obtain⟨e9,ha⟩:=AC ha
   obtain⟨e8,ha⟩:=AC ha
   obtain⟨e7,ha⟩:=AC ha
   obtain⟨e6,ha⟩:=AC ha
   obtain⟨e5,ha⟩:=AC ha
   obtain⟨e4,ha⟩:=AC ha
   obtain⟨e3,ha⟩:=AC ha
   obtain⟨e2,ha⟩:=AC ha
   obtain⟨e1,ha⟩:=AC ha
   have hl:(k:Int)<n:=by omega
   have q0:=Ac c0
   have q1:=Ac c1
   have q2:=Ac c2
   have q3:=Ac c3
   go_wp2_with fail
   refine ab_ (by kernel_rfl) (by kernel_rfl) ?_
   have hy:=aA_ wr
   iterate 11 (go_big_quiet_step (first | (go_at_call 58;exact an_ (k1 _))))
   iterate 9 (go_big_quiet_step (first | (go_at_call 58;exact an_ (k2 _))))
   iterate 19 (go_big_quiet_step (first | (go_at_call 58;exact an_ (k3 _))))
   refine wpQuiet_nil ?_
   intro w2 hr
   have hs:=Aa hB (ah_ hr)
   clear hr
   go_wp2
   go_roundw
   case rel=>
    refine ⟨k+1,_,by omega,by go_num,rfl,?_,hs⟩
    show _=_
    rw[hb.out,hq.out,Gi hc,<-ho.out]
   case measure=>simp[intOf];omega
  ·obtain rfl:k=n:=by omega
   have hl:¬ (k:Int)<k:=by omega
   go_wp2
   go_returns
   rw[Zk (by rw[hu.out];exact Zd _),hR.out] at ho
   have hv:o=⟨R.toArray⟩:=Dd (by simpa using ho.out)
   subst hv
   exact⟨rfl,hB⟩
theorem Ek {o n:ByteArray}{W P:List UInt8}(hn:n=⟨(o.data.toList++W).toArray⟩)(ho:o.data.toList=P):n.data.toList=P++W:=by
 rw[hn,<-ho]
theorem HR (B0:Nat)(v:Value)(p:Po)(w:World)(h:A0 B0 w v p)(hd:AJ p)(hN:Jb p) :
  Calls prog 24 #[v] w fun e w'=>e=.returned (.string ⟨(Bq p).toArray⟩)∧Below w.heap.size w w':=by
 obtain⟨ea,en,ec,va,vn,vc,ra,rn,rc,la,ln,lc,rfl,⟨h1,_⟩,⟨h2,_⟩,⟨h3,_⟩,h4,_⟩:=h
 obtain⟨R,hR⟩:∃ R,Hid (Bq p=R):=⟨_,rfl⟩
 have hc:=hN.len
 rw[hR.out] at hc
 rw[hR.out]
 obtain⟨L1,hD⟩:∃ x,Hid (Ah (hdW p)=x):=⟨_,rfl⟩
 obtain⟨L2,hL⟩:∃ x,Hid (L1++Dx p.ex=x):=⟨_,rfl⟩
 obtain⟨L3,hM⟩:∃ x,Hid (L2++BX p.vs=x):=⟨_,rfl⟩
 obtain⟨L4,hO⟩:∃ x,Hid (L3++Br Dp p.rf=x):=⟨_,rfl⟩
 have h7:Hid (L4++Br B2 p.lt=R):=by show _=_;rw[<-hR.out,<-hO.out,<-hM.out,<-hL.out,<-hD.out];rfl
 have l5:Hid ((L4++Br B2 p.lt).length<=1000000):=by show _<=_;rw[h7.out];exact hc
 have l4:Hid ((L3++Br Dp p.rf).length<=1000000):=by have:=l5.out;rw[ZE] at this;show _<=_;rw[hO.out];omega
 have l3:Hid ((L2++BX p.vs).length<=1000000):=by have:=l4.out;rw[ZE] at this;show _<=_;rw[hM.out];omega
 have l2:Hid ((L1++Dx p.ex).length<=1000000):=by have:=l3.out;rw[ZE] at this;show _<=_;rw[hL.out];omega
 have l1:Hid ((Ah (hdW p)).length<=1000000):=by have:=l2.out;rw[ZE,<-hD.out] at this;show _<=_;omega
 have qA:Hid (p.ex.length=en):=h1.len
 have qz:Hid (p.vs.length=vn):=h2.len
 have qM:en<=4194304:=by rw[<-h1.len];exact hd.1
 have qN:vn<=4194304:=by rw[<-h2.len];exact hd.2.2.1
 have qD:rn<=4194304:=by rw[<-h3.len];exact hd.2.2.2.2.1
 have qE:ln<=4194304:=by rw[<-h4.len];exact hd.2.2.2.2.2.2.1
 obtain⟨sz1,sz2⟩:=hN.size
 obtain⟨nx1,nx2⟩:=hN.next
 obtain⟨ds,qe⟩:∃ zz,Hid (AK p.size=zz):=⟨_,rfl⟩
 have kds:∀ u:World,Calls prog 58 #[.int .i64 p.size] u fun e w'=>e=.returned (.string ds)∧Below u.heap.size u w':=fun u=>by rw[<-qe.out];exact Bn p.size u sz1 sz2
 obtain⟨dn,qd⟩:∃ zz,Hid (AK p.next=zz):=⟨_,rfl⟩
 have kdn:∀ u:World,Calls prog 58 #[.int .i64 p.next] u fun e w'=>e=.returned (.string dn)∧Below u.heap.size u w':=fun u=>by rw[<-qd.out];exact Bn p.next u nx1 nx2
 obtain⟨s0,hK⟩:∃ z,Hid (z=(⟨#[112,111,111,108,32]⟩++ds++⟨#[32]⟩++dn++⟨#[10]⟩:ByteArray)):=⟨_,rfl⟩
 have hh:Hid (s0.data.toList=L1):=by
  show _=_
  rw[hK.out,<-hD.out]
  unfold hdW Ah
  rw[qe.out,qd.out]
  simp[B3,Cx,ByteArray.data_append]
 have t0:((⟨#[112,111,111,108,32]⟩:ByteArray)++ds++⟨#[32]⟩++dn++⟨#[10]⟩).size<=1000000:=by
  rw[<-hK.out]
  show s0.data.size<=_
  rw[<-Array.length_toList,hh.out,<-hD.out]
  exact l1.out
 obtain⟨e04,t0⟩:=AC t0
 obtain⟨e03,t0⟩:=AC t0
 obtain⟨e02,t0⟩:=AC t0
 obtain⟨e01,_⟩:=AC t0
 go_enter func24,ntmps24
 have C:=Blk.new w #[.int .i64 p.size,.int .i64 p.next,.slice ea en ec,.slice va vn vc,.slice ra rn rc,.slice la ln lc] 28
 have hn:Below w.heap.size w (w.alloc (.cells #[.int .i64 p.size,.int .i64 p.next,.slice ea en ec,.slice va vn vc,.slice ra rn rc,.slice la ln lc] 28)):=by go_grown
 go_wp2_with fail
 replace h1:=h1.below hn
 replace h2:=h2.below hn
 replace h3:=h3.below hn
 replace h4:=h4.below hn
 generalize w.alloc (.cells #[.int .i64 p.size,.int .i64 p.next,.slice ea en ec,.slice va vn vc,.slice ra rn rc,.slice la ln lc] 28)=W at *
 have q0:=Ac (C.cell 0)
 have q1:=Ac (C.cell 1)
 refine ab_ (by kernel_rfl) (by kernel_rfl) ?_
 have hJ:=aA_ W
 iterate 3 (go_big_quiet_step (first | (go_at_call 58;exact an_ (kds _))))
 iterate 5 (go_big_quiet_step (first | (go_at_call 58;exact an_ (kdn _))))
 iterate 3 (go_big_quiet_step (fail))
 refine wpQuiet_nil ?_
 intro w1 qo
 have h6:=ah_ qo
 rw[<-hK.out]
 clear qo q0 q1 e01 e02 e03 e04 t0
 go_wp2_with fail
 go_loopw [3,4] (fun s ix wr=>∃ (k:Nat) (o:ByteArray),k<=en∧ix=.int .i64 k∧s=.string o∧Hid (o.data.toList=L1++Dx (p.ex.take k))∧Below W.heap.size W wr) (fun _ ix _=>en-(intOf ix).toNat)
 case atStart=>exact⟨0,s0,Zg _,rfl,rfl,by show _=_;rw[hh.out];simp[Dx],h6⟩
 case round=>
  clear h6 hh hK kds kdn
  obtain⟨k,o,hk,rfl,rfl,ho,hB⟩:=hrel
  have y2:=(C.below hB).cell 2
  by_cases hlt:k<en
  ·obtain⟨eb,eo,x,rfl,hx,c0,c1⟩:=be_ (h1.below hB) hlt
   obtain⟨na1,na2⟩:=hN.ex x (Zc hx)
   have hf:Hid (Dx (p.ex.take (k+1))=Dx (p.ex.take k)++Ah (exW x)):=BZ hx
   have ha:=BO (f:=fun e=>Ah (exW e)) hx l2.out
   change (L1++Dx (p.ex.take k)++Ah (exW x)).length<=1000000 at ha
   rw[<-ho.out] at ha
   obtain⟨da,hg⟩:∃ zz,Hid (AK x.a=zz):=⟨_,rfl⟩
   have kda:∀ u:World,Calls prog 58 #[.int .i64 x.a] u fun e w'=>e=.returned (.string da)∧Below u.heap.size u w':=fun u=>by rw[<-hg.out];exact Bn x.a u na1 na2
   obtain⟨xd,hY⟩:∃ z,Hid (x.d=z):=⟨_,rfl⟩
   unfold exW at ha
   rw[hg.out,hY.out] at ha
   rw[hY.out] at c1
   obtain⟨nA,hV⟩:∃ z,Hid (z=(⟨(o.data.toList++Ah [⟨#[101,120,116,101,110,116]⟩,da,xd]).toArray⟩:ByteArray)):=⟨_,rfl⟩
   have qb:Hid (o++⟨#[101,120,116,101,110,116,32]⟩++da++⟨#[32]⟩++xd++⟨#[10]⟩=nA):=by show _=_;rw[hV.out];refine Dd ?_;unfold Ah;simp[B3,Cx,ByteArray.data_append]
   have tA:(o++⟨#[101,120,116,101,110,116,32]⟩++da++⟨#[32]⟩++xd++⟨#[10]⟩).size<=1000000:=by rw[qb.out,hV.out];show (o.data.toList++Ah [⟨#[101,120,116,101,110,116]⟩,da,xd]).toArray.size<=_;rw[YI];exact ha
   obtain⟨eA5,tA⟩:=AC tA
   obtain⟨eA4,tA⟩:=AC tA
   obtain⟨eA3,tA⟩:=AC tA
   obtain⟨eA2,tA⟩:=AC tA
   obtain⟨eA1,tA⟩:=AC tA
   have hU:(k:Int)<en:=by omega
   have q0:=Ac c0
   have q1:=Ac c1
   have q2:=Ac y2
   clear ha c0 c1 tA h2 h3 h4
   go_wp2_with fail
   refine ab_ (by kernel_rfl) (by kernel_rfl) ?_
   have hJ:=aA_ wr
   iterate 9 (go_big_quiet_step (first | (go_at_call 58;exact an_ (kda _))))
   iterate 11 (go_big_quiet_step (fail))
   refine wpQuiet_nil ?_
   intro w2 hA
   have hC:=Aa hB (ah_ hA)
   clear hA
   rw[qb.out]
   go_wp2
   go_roundw
   case rel=>
    refine ⟨k+1,nA,by omega,by go_num,rfl,(Ek hV.out ho.out).trans ?_,hC⟩
    rw[hf.out,<-ZC]
    unfold exW
    rw[hg.out,hY.out]
   case measure=>simp[intOf];omega
  ·have qf:¬ (k:Int)<en:=by omega
   have hp:Hid (k=en):=by show _=_;omega
   replace ho:Hid (o.data.toList=L2):=by
    have:=ho.out
    rw[Zk (by rw[qA.out,hp.out];exact Zd _),hL.out] at this
    exact this
   go_wp2_with fail
   clear qf hp hlt hk y2
   go_loopw [3,5] (fun s ix wr=>∃ (k:Nat) (o:ByteArray),k<=vn∧ix=.int .i64 k∧s=.string o∧Hid (o.data.toList=L2++BX (p.vs.take k))∧Below W.heap.size W wr) (fun _ ix _=>vn-(intOf ix).toNat)
   case atStart=>exact⟨0,o,Zg _,rfl,rfl,by show _=_;rw[ho.out];simp[BX],hB⟩
   case round=>
    clear ho hB h1
    obtain⟨k2,o2,hk,rfl,rfl,ho,hB⟩:=hrel
    have y3:=(C.below hB).cell 3
    by_cases hlt:k2<vn
    ·obtain⟨vb,vo,x,pa,pn,pc,rfl,hx,c0,c1,c2,c3,hI,_,_⟩:=b5_ (h2.below hB) hlt
     obtain⟨⟨na1,na2⟩,qG,qF,qH⟩:=hN.vs x (Zc hx)
     have hf:Hid (BX (p.vs.take (k2+1))=BX (p.vs.take k2)++Dg x):=BZ hx
     have ha:=BO (f:=Dg) hx l3.out
     change (L2++BX (p.vs.take k2)++Dg x).length<=1000000 at ha
     have qB:Hid (x.its.length=pn):=hI.len
     have qO:pn<=4194304:=by rw[<-hI.len];exact qF
     obtain⟨da,hg⟩:∃ zz,Hid (AK x.id=zz):=⟨_,rfl⟩
     have kda:∀ u:World,Calls prog 58 #[.int .i64 x.id] u fun e w'=>e=.returned (.string da)∧Below u.heap.size u w':=fun u=>by rw[<-hg.out];exact Bn x.id u na1 na2
     obtain⟨xn,h0⟩:∃ z,Hid (x.nm=z):=⟨_,rfl⟩
     obtain⟨xf,hZ⟩:∃ z,Hid (x.fx=z):=⟨_,rfl⟩
     obtain⟨fl,hT⟩:∃ z,Hid (FS xf=z):=⟨_,rfl⟩
     have kfl:∀ u:World,Calls prog 59 #[.bool xf] u fun e w'=>e=.returned (.string fl)∧w'=u:=fun u=>by rw[<-hT.out];exact HP xf u
     rw[h0.out] at c1
     rw[hZ.out] at c2
     obtain⟨Lv,hF⟩:∃ z,Hid (L2++BX (p.vs.take k2)++Ah (voW x)=z):=⟨_,rfl⟩
     have hX:Hid (voW x=[⟨#[118,111,108,117,109,101]⟩,da,xn,fl]):=by show _=_;unfold voW;rw[hg.out,h0.out,hZ.out,hT.out]
     have hv:Hid (L2++BX (p.vs.take (k2+1))=Lv++BT x.its):=by show _=_;rw[hf.out,<-hF.out];unfold Dg;simp
     have hq:Hid ((Lv++BT x.its).length<=1000000):=by show _<=_;rw[<-hv.out,hf.out,<-ZC];exact ha
     have he:(o2.data.toList++Ah [⟨#[118,111,108,117,109,101]⟩,da,xn,fl]).length<=1000000:=by
      have:=hq.out
      rw[ZE,<-hF.out,hX.out,<-ho.out] at this
      omega
     clear ha
     obtain⟨nB,hG⟩:∃ z,Hid (z=(⟨(o2.data.toList++Ah [⟨#[118,111,108,117,109,101]⟩,da,xn,fl]).toArray⟩:ByteArray)):=⟨_,rfl⟩
     have hQ:Hid (o2++⟨#[118,111,108,117,109,101,32]⟩++da++⟨#[32]⟩++xn++⟨#[32]⟩++fl++⟨#[10]⟩=nB):=by show _=_;rw[hG.out];refine Dd ?_;unfold Ah;simp[B3,Cx,ByteArray.data_append]
     have tB:(o2++⟨#[118,111,108,117,109,101,32]⟩++da++⟨#[32]⟩++xn++⟨#[32]⟩++fl++⟨#[10]⟩).size<=1000000:=by rw[hQ.out,hG.out];show (o2.data.toList++Ah [⟨#[118,111,108,117,109,101]⟩,da,xn,fl]).toArray.size<=_;rw[YI];exact he
     obtain⟨eB7,tB⟩:=AC tB
     obtain⟨eB6,tB⟩:=AC tB
     obtain⟨eB5,tB⟩:=AC tB
     obtain⟨eB4,tB⟩:=AC tB
     obtain⟨eB3,tB⟩:=AC tB
     obtain⟨eB2,tB⟩:=AC tB
     obtain⟨eB1,tB⟩:=AC tB
     have hU:(k2:Int)<vn:=by omega
     clear he tB hf
     go_wp2_with fail
     have D:=Blk.new wr #[.int .i64 x.id,.string xn,.bool xf,.slice pa pn pc] 50
     have qv:Below W.heap.size W (wr.alloc (.cells #[.int .i64 x.id,.string xn,.bool xf,.slice pa pn pc] 50)):=hB.alloc hB.size _
     have qw:=hI.below (hb:=(Yg _ wr).alloc (Zd _) (.cells #[.int .i64 x.id,.string xn,.bool xf,.slice pa pn pc] 50))
     clear c0 c1 c2 c3 y3 hI
     generalize wr.alloc (.cells #[.int .i64 x.id,.string xn,.bool xf,.slice pa pn pc] 50)=V at *
     have q0:=Ac (D.cell 0)
     have q1:=Ac (D.cell 1)
     have q2:=Ac (D.cell 2)
     refine ab_ (by kernel_rfl) (by kernel_rfl) ?_
     have hJ:=aA_ V
     iterate 5 (go_big_quiet_step (first | (go_at_call 58;exact an_ (kda _))))
     iterate 9 (go_big_quiet_step (first | (go_at_call 59;exact am_ (kfl _))))
     iterate 3 (go_big_quiet_step (fail))
     refine wpQuiet_nil ?_
     intro w2 hA
     have hC:=ah_ hA
     clear hA q0 q1 q2 kda kfl
     rw[hQ.out]
     have ql:Hid (nB.data.toList=Lv):=(Ek hG.out ho.out).trans (by rw[<-hF.out,hX.out])
     clear hG hQ hX hF hg h0 hZ hT ho hB
     go_wp2_with fail
     go_loopw [3,7] (fun s ix wr=>∃ (k:Nat) (o:ByteArray),k<=pn∧ix=.int .i64 k∧s=.string o∧Hid (o.data.toList=Lv++BT (x.its.take k))∧Below V.heap.size V wr) (fun _ ix _=>pn-(intOf ix).toNat)
     case atStart=>exact⟨0,nB,Zg _,rfl,rfl,by show _=_;rw[ql.out];simp[BT],hC⟩
     case round=>
      clear ql hC
      obtain⟨j,o3,hj,rfl,rfl,ho,hB⟩:=hrel
      obtain⟨wj,rfl⟩:∃ z,z=wr:=⟨_,rfl⟩
      have y3:=(D.below hB).cell 3
      by_cases hltj:j<pn
      ·obtain⟨ib,io,y,ga,gn,gc,rfl,hy,c0,c1,hP,_,_,_⟩:=bO_ (qw.below hB) hltj
       have qr:=Zc hy
       have qI:=qG y qr
       have qx:Hid (y.ps.length=gn):=hP.len
       have qJ:gn<=4194304:=by rw[<-hP.len];exact qH y qr
       have hf:Hid (BT (x.its.take (j+1))=BT (x.its.take j)++itW y):=Ej hy
       have ha:=BO (f:=itW) hy hq.out
       change (Lv++BT (x.its.take j)++itW y).length<=1000000 at ha
       obtain⟨yn,h5⟩:∃ z,Hid (y.nm=z):=⟨_,rfl⟩
       rw[h5.out] at c0
       obtain⟨Lf,hE⟩:∃ z,Hid (Lv++BT (x.its.take j)++Ah [⟨#[102,105,108,101]⟩,yn]=z):=⟨_,rfl⟩
       have hw:Hid (Lv++BT (x.its.take (j+1))=Lf++AQ y.ps):=by show _=_;rw[hf.out,<-hE.out];unfold itW;rw[h5.out];simp
       have qi:Hid ((Lf++AQ y.ps).length<=1000000):=by show _<=_;rw[<-hw.out,hf.out,<-ZC];exact ha
       have he:(o3.data.toList++Ah [⟨#[102,105,108,101]⟩,yn]).length<=1000000:=by
        have:=qi.out
        rw[ZE,<-hE.out,<-ho.out] at this
        omega
       clear ha
       obtain⟨nF,hH⟩:∃ z,Hid (z=(⟨(o3.data.toList++Ah [⟨#[102,105,108,101]⟩,yn]).toArray⟩:ByteArray)):=⟨_,rfl⟩
       have hS:Hid (o3++⟨#[102,105,108,101,32]⟩++yn++⟨#[10]⟩=nF):=by show _=_;rw[hH.out];refine Dd ?_;unfold Ah;simp[B3,Cx,ByteArray.data_append]
       have tF:(o3++⟨#[102,105,108,101,32]⟩++yn++⟨#[10]⟩).size<=1000000:=by rw[hS.out,hH.out];show (o3.data.toList++Ah [⟨#[102,105,108,101]⟩,yn]).toArray.size<=_;rw[YI];exact he
       obtain⟨eF3,tF⟩:=AC tF
       obtain⟨eF2,tF⟩:=AC tF
       obtain⟨eF1,tF⟩:=AC tF
       have qj:(j:Int)<pn:=by omega
       clear he tF hf
       have qm:Hid (nF.data.toList=Lf):=(Ek hH.out ho.out).trans hE.out
       go_wp2_with fail
       rw[hS.out]
       clear hS hH hE ho h5 eF1 eF2 eF3
       go_loopw [3,8] (fun s ix wr=>∃ (m:Nat) (o:ByteArray),m<=gn∧ix=.int .i64 m∧s=.string o∧Hid (o.data.toList=Lf++AQ (y.ps.take m))∧Below wj.heap.size wj wr) (fun _ ix _=>gn-(intOf ix).toNat)
       case atStart=>exact⟨0,nF,Zg _,rfl,rfl,by show _=_;rw[qm.out];simp[AQ],Yg _ _⟩
       case round=>
        clear qm
        obtain⟨m,o4,hm,rfl,rfl,ho,hl⟩:=hrel
        have c1':=Ab hl c1
        have y3':=Ab hl y3
        by_cases hltm:m<gn
        ·obtain⟨gb,go,z,rfl,hz,d0,d1,d2⟩:=bi_ (hP.below hl) hltm
         obtain⟨⟨za1,za2⟩,⟨zf1,zf2⟩,zn1,zn2⟩:=qI z (Zc hz)
         have hf:Hid (AQ (y.ps.take (m+1))=AQ (y.ps.take m)++Ah (ptW z)):=Dc hz
         have ha:=BO (f:=fun q=>Ah (ptW q)) hz qi.out
         change (Lf++AQ (y.ps.take m)++Ah (ptW z)).length<=1000000 at ha
         rw[<-ho.out] at ha
         obtain⟨pa1,hr⟩:∃ zz,Hid (AK z.a=zz):=⟨_,rfl⟩
         have kpa1:∀ u:World,Calls prog 58 #[.int .i64 z.a] u fun e w'=>e=.returned (.string pa1)∧Below u.heap.size u w':=fun u=>by rw[<-hr.out];exact Bn z.a u za1 za2
         obtain⟨pf1,hs⟩:∃ zz,Hid (AK z.f=zz):=⟨_,rfl⟩
         have kpf1:∀ u:World,Calls prog 58 #[.int .i64 z.f] u fun e w'=>e=.returned (.string pf1)∧Below u.heap.size u w':=fun u=>by rw[<-hs.out];exact Bn z.f u zf1 zf2
         obtain⟨pn1,ht⟩:∃ zz,Hid (AK z.n=zz):=⟨_,rfl⟩
         have kpn1:∀ u:World,Calls prog 58 #[.int .i64 z.n] u fun e w'=>e=.returned (.string pn1)∧Below u.heap.size u w':=fun u=>by rw[<-ht.out];exact Bn z.n u zn1 zn2
         have qn:Hid (ptW z=[⟨#[112,97,114,116]⟩,pa1,pf1,pn1]):=by show _=_;unfold ptW;rw[hr.out,hs.out,ht.out]
         rw[qn.out] at ha
         obtain⟨nG,hW⟩:∃ z,Hid (z=(⟨(o4.data.toList++Ah [⟨#[112,97,114,116]⟩,pa1,pf1,pn1]).toArray⟩:ByteArray)):=⟨_,rfl⟩
         have qc:Hid (o4++⟨#[112,97,114,116,32]⟩++pa1++⟨#[32]⟩++pf1++⟨#[32]⟩++pn1++⟨#[10]⟩=nG):=by show _=_;rw[hW.out];refine Dd ?_;unfold Ah;simp[B3,Cx,ByteArray.data_append]
         have tG:(o4++⟨#[112,97,114,116,32]⟩++pa1++⟨#[32]⟩++pf1++⟨#[32]⟩++pn1++⟨#[10]⟩).size<=1000000:=by rw[qc.out,hW.out];show (o4.data.toList++Ah [⟨#[112,97,114,116]⟩,pa1,pf1,pn1]).toArray.size<=_;rw[YI];exact ha
         obtain⟨eG7,tG⟩:=AC tG
         obtain⟨eG6,tG⟩:=AC tG
         obtain⟨eG5,tG⟩:=AC tG
         obtain⟨eG4,tG⟩:=AC tG
         obtain⟨eG3,tG⟩:=AC tG
         obtain⟨eG2,tG⟩:=AC tG
         obtain⟨eG1,tG⟩:=AC tG
         have qk:(m:Int)<gn:=by omega
         clear ha tG
         go_wp2_with fail
         have E:=Blk.new wr #[.int .i64 z.a,.int .i64 z.f,.int .i64 z.n] 97
         have qu:Below wj.heap.size wj (wr.alloc (.cells #[.int .i64 z.a,.int .i64 z.f,.int .i64 z.n] 97)):=hl.alloc hl.size _
         clear d0 d1 d2 c1' y3'
         generalize wr.alloc (.cells #[.int .i64 z.a,.int .i64 z.f,.int .i64 z.n] 97)=V2 at *
         have q0:=Ac (E.cell 0)
         have q1:=Ac (E.cell 1)
         have q2:=Ac (E.cell 2)
         refine ab_ (by kernel_rfl) (by kernel_rfl) ?_
         have hJ:=aA_ V2
         iterate 5 (go_big_quiet_step (first | (go_at_call 58;exact an_ (kpa1 _))))
         iterate 5 (go_big_quiet_step (first | (go_at_call 58;exact an_ (kpf1 _))))
         iterate 5 (go_big_quiet_step (first | (go_at_call 58;exact an_ (kpn1 _))))
         iterate 3 (go_big_quiet_step (fail))
         refine wpQuiet_nil ?_
         intro w5 qp
         have qs:=Aa qu (ah_ qp)
         clear qp q0 q1 q2
         rw[qc.out]
         go_wp2
         go_roundw
         case rel=>
          refine ⟨m+1,nG,by omega,by go_num,rfl,(Ek hW.out ho.out).trans ?_,qs⟩
          rw[hf.out,<-ZC,qn.out]
         case measure=>simp[intOf];omega
        ·have qL:¬ (m:Int)<gn:=by omega
         have qC:Hid (m=gn):=by show _=_;omega
         replace ho:Hid (o4.data.toList=Lf++AQ y.ps):=by
          have:=ho.out
          rw[Zk (by rw[qx.out,qC.out];exact Zd _)] at this
          exact this
         go_wp2
         go_roundw
         case rel=>exact⟨j+1,o4,by omega,by go_num,rfl,ho.out.trans hw.out.symm,Aa hB hl⟩
         case measure=>simp[intOf];omega
      ·have qK:¬ (j:Int)<pn:=by omega
       have qy:Hid (j=pn):=by show _=_;omega
       replace ho:Hid (o3.data.toList=Lv++BT x.its):=by
        have:=ho.out
        rw[Zk (by rw[qB.out,qy.out];exact Zd _)] at this
        exact this
       go_wp2
       go_roundw
       case rel=>exact⟨k2+1,o3,by omega,by go_num,rfl,ho.out.trans hv.out.symm,Aa qv hB⟩
       case measure=>simp[intOf];omega
    ·have qf:¬ (k2:Int)<vn:=by omega
     have hp:Hid (k2=vn):=by show _=_;omega
     replace ho:Hid (o2.data.toList=L3):=by
      have:=ho.out
      rw[Zk (by rw[qz.out,hp.out];exact Zd _),hM.out] at this
      exact this
     obtain⟨T1,h8⟩:∃ z:ByteArray,Hid (⟨(Br Dp p.rf).toArray⟩=z):=⟨_,rfl⟩
     obtain⟨T2,h9⟩:∃ z:ByteArray,Hid (⟨(Br B2 p.lt).toArray⟩=z):=⟨_,rfl⟩
     have qg:(Br Dp p.rf).length<=1000000:=by have:=l4.out;rw[ZE] at this;omega
     have qh:(Br B2 p.lt).length<=1000000:=by have:=l5.out;rw[ZE] at this;omega
     have r1:∀ u:World,Below wr.heap.size wr u->Calls prog 60 #[.string ⟨#[114,101,102]⟩,.slice ra rn rc] u fun e w'=>e=.returned (.string T1)∧Below u.heap.size u w':=fun u hu=>by rw[<-h8.out];exact Eu Dp ra rn rc p.rf u ((h3.below hB).below hu) qD hN.rf qg
     have r2:∀ u:World,Below wr.heap.size wr u->Calls prog 60 #[.string ⟨#[108,97,116,101]⟩,.slice la ln lc] u fun e w'=>e=.returned (.string T2)∧Below u.heap.size u w':=fun u hu=>by rw[<-h9.out];exact Eu B2 la ln lc p.lt u ((h4.below hB).below hu) qE hN.lt qh
     have qa:Hid (o2++T1++T2=⟨R.toArray⟩):=by
      show _=_
      rw[<-h8.out,<-h9.out]
      refine Dd ?_
      rw[<-h7.out,<-hO.out,<-ho.out]
      simp[ByteArray.data_append]
     have tR:(o2++T1++T2).size<=1000000:=by rw[qa.out];show R.toArray.size<=_;rw[YI];exact hc
     obtain⟨e2,tR⟩:=AC tR
     obtain⟨e1,tR⟩:=AC tR
     have q4:=Ac ((C.below hB).cell 4)
     have q5:=Ac ((C.below hB).cell 5)
     clear hp tR qg qh
     go_wp2_with fail
     refine ab_ (by kernel_rfl) (by kernel_rfl) ?_
     have hJ:=aA_ wr
     iterate 4 (go_big_quiet_step (first | (go_at_call 60;exact an_ (r1 _ (Grw.h _)))))
     iterate 4 (go_big_quiet_step (first | (go_at_call 60;exact an_ (r2 _ (Grw.h _)))))
     iterate 2 (go_big_quiet_step (fail))
     refine wpQuiet_nil ?_
     intro w6 qq
     have qt:=Aa (Aa hn hB) (ah_ qq)
     clear qq
     rw[qa.out]
     go_wp2
     go_returns
     exact⟨rfl,qt⟩
theorem Et (B0:Nat)(hB0:0<B0)(v:Value)(p:Po)(w:World)(h:A0 B0 w v p)(hd:AJ p)(hN:At p=true->Jb p) :
  Calls prog 8 #[v] w fun e w'=>e=.returned (.string (BW p))∧Below w.heap.size w w':=by
 have he:=h
 obtain⟨ea,en,ec,va,vn,vc,ra,rn,rc,la,ln,lc,rfl,_⟩:=h
 have C:=Blk.new w #[.int .i64 p.size,.int .i64 p.next,.slice ea en ec,.slice va vn vc,.slice ra rn rc,.slice la ln lc] 28
 cases hp:At p
 ·have hO:BW p=⟨#[]⟩:=by unfold BW;rw[hp];rfl
  rw[hO]
  go_enter func8,ntmps8
  go_wp2_with fail
  refine (ep_ B0 hB0 _ p _ (he.below (by go_grown)) hd).mono ?_
  rintro e w1 ⟨rfl,hc⟩
  have ha:Below w.heap.size w w1:=Aa (by go_grown) hc
  clear hc he C
  rw[hp]
  go_wp2_with fail
  go_returns
  exact⟨rfl,ha⟩
 ·have hO:BW p=⟨(Bq p).toArray⟩:=by unfold BW;rw[hp];rfl
  rw[hO]
  have hg:=hN hp
  obtain⟨T,hT⟩:∃ z,Hid ((⟨(Bq p).toArray⟩:ByteArray)=z):=⟨_,rfl⟩
  have hb:=fun (u:World) (hu:Below w.heap.size w u)=>HR B0 _ p u (he.below hu) hd hg
  rw[hT.out] at hb
  rw[hT.out]
  go_enter func8,ntmps8
  go_wp2_with fail
  refine (ep_ B0 hB0 _ p _ (he.below (by go_grown)) hd).mono ?_
  rintro e w1 ⟨rfl,hc⟩
  have ha:Below w.heap.size w w1:=Aa (by go_grown) hc
  replace C:=C.below hc
  have c0:=C.cell 0
  have c1:=C.cell 1
  have c2:=C.cell 2
  have c3:=C.cell 3
  have c4:=C.cell 4
  have c5:=C.cell 5
  clear hc he C
  rw[hp]
  go_wp2_with fail
  refine (hb w1 ha).mono ?_
  rintro e w2 ⟨rfl,hf⟩
  go_wp2
  go_returns
  exact⟨rfl,Aa ha hf⟩
end
end Go.Proofs.YtkkjdbfalpjhfaaGreatDoor
