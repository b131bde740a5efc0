/- A pool as a text: of the model -/
import Derived.Lib.Join
import Derived.Lib.ItoaNum
import Derived.Lib.AppendIntMem
import Derived.Test.YtdmeabghpchckaaGreatDoorV46
set_option maxHeartbeats 20000000
set_option maxRecDepth 100000
namespace Go.Proofs.YtdmeabghpchckaaGreatDoor
theorem kX_ (a b:ByteArray):(a++b).size=a.size+b.size:=ByteArray.size_append
section
open Go Go.RowKit Go.BigFrame _root_.Go.Proofs.Tryz
theorem ba_eqX {a b:ByteArray}(h:a.data.toList=b.data.toList):a=b:=by
 cases a;cases b;simp at h;rw[h]
def decB (n:Int):ByteArray:=⟨(Lib.itoa n).toArray⟩
def ddGo (k:Nat)(o:ByteArray):ByteArray:=⟨(Lib.decDigits k).toArray⟩++o
theorem ddGo_step {k:Nat}(o:ByteArray)(h:10<=k):ddGo k o=ddGo (k / 10) (strOfNums [48+(k:Int) % 10]++o):=by
 unfold ddGo
 rw[Lib.decDigits,dif_neg (by omega)]
 have e:strOfNums [48+(k:Int) % 10]=⟨#[UInt8.ofNat (48+k % 10)]⟩:=by
  unfold strOfNums
  have:(48+(k:Int) % 10).toNat=48+k % 10:=by omega
  simp[this]
 rw[e]
 refine ba_eqX ?_
 simp[ByteArray.data_append]
theorem ddGo_last {k:Nat}(o:ByteArray)(h:k<10):ddGo k o=strOfNums [48+(k:Int)]++o:=by
 unfold ddGo
 rw[Lib.decDigits,dif_pos h]
 have e:strOfNums [48+(k:Int)]=⟨#[UInt8.ofNat (48+k)]⟩:=by
  unfold strOfNums
  have:(48+(k:Int)).toNat=48+k:=by omega
  simp[this]
 rw[e]
end
section
open Go Go.RowKit Go.BigFrame Go.Shelf _root_.Go.Proofs.Tryz
def wordL (ps:List ByteArray):List UInt8:=Lib.join (ps.map (·.data.toList)) [32]
def lineL (ps:List ByteArray):List UInt8:=wordL ps++[10]
end
section
open Go Go.RowKit Go.BigFrame _root_.Go.Proofs.Tryz
theorem dec_len:∀ (m k:Nat),k<10 ^ (m+1)->(Lib.decDigits k).length<=m+1
 |0,k,h=>by rw[Lib.decDigits,dif_pos (by simpa using h)];simp
 |m+1,k,h=>by
  rw[Lib.decDigits]
  split
  ·simp
  ·have:=dec_len m (k / 10) (by rw[Nat.pow_succ] at h;omega)
   simp
   omega
theorem decB_size {n:Int}(h0:-1000000000000<n)(h1:n<1000000000000):(decB n).size<=13:=by
 show (Lib.itoa n).toArray.size<=13
 rw[YI]
 unfold Lib.itoa
 split
 ·have:=dec_len 11 n.natAbs (by omega)
  simp
  omega
 ·have:=dec_len 11 n.toNat (by omega)
  omega
theorem decB_pos {k:Nat}:decB k=ddGo k .empty:=by
 unfold decB ddGo Lib.itoa
 rw[if_neg (by omega)]
 refine ba_eqX ?_
 simp
theorem decB_neg {k:Nat}(h:0<k):decB (-(k:Int))=ByteArray.mk #[45]++decB k:=by
 unfold decB Lib.itoa
 rw[if_pos (by omega),if_neg (by omega)]
 refine ba_eqX ?_
 simp[ByteArray.data_append]
theorem spec_l1Dec_pos (k:Nat)(w:World)(h2:k<1000000000000) :
  Calls prog 126 #[.int .i64 k] w fun e w'=>e=.returned (.string (decB k))∧Below w.heap.size w w':=by
 have hc:∀ (u:World) (x:Int),(convert 22 9 (.slice (some ⟨u.heap.size,0,none⟩) 1 1)).run prog (u.alloc (.cells #[.int .u8 x] 5))=.ok (.string (strOfNums [x])) (u.alloc (.cells #[.int .u8 x] 5)):=fun u x=>
  run_convert_bytes_arg (P:=prog) _ 22 5 underlying22 underlying5 u.heap.size 0 1 1 [x] rfl (fun i hi=>(by obtain rfl:i=0:=(by omega);simp)) 9 underlying9
 obtain⟨R,hR⟩:∃ R,Hid (decB k=R):=⟨_,rfl⟩
 rw[hR.out]
 go_enter func126,ntmps126
 go_wp2_with fail
 go_loopw [0,3] (fun kk out wr=>∃ (j:Nat) (o:ByteArray),kk=.int .i64 j∧out=.string o∧j<1000000000000∧Hid (∃ m,j<10 ^ m∧o.size+m<=13)∧Hid (R=ddGo j o)∧Below w.heap.size w wr) (fun kk _ _=>(intOf kk).toNat)
 case atStart=>exact⟨k,.empty,rfl,rfl,h2,⟨12,by omega,by decide⟩,by show _=_;rw[<-hR.out];exact decB_pos,Yg _ _⟩
 case round=>
  obtain⟨j,o,rfl,rfl,hj,hm,hI,hB⟩:=hrel
  have ho:o.size<=13:=by obtain⟨m,_,h⟩:=hm.out;omega
  by_cases hlt:10<=j
  ·have hb:¬ 9223372036854775807<(strOfNums [48+(j:Int) % 10]).size+o.size:=by rw[strOfNums_size];simp;omega
   have ha:(10:Int)<=j:=by omega
   go_wp2
   go_roundw
   case rel=>
    refine ⟨j / 10,_,by go_num,rfl,by omega,?_,?_,hB.alloc hB.size _⟩
    ·obtain⟨m,h3,h4⟩:=hm.out
     cases m with
     |zero=>simp at h3;omega
     |succ m=>exact⟨m,by rw[Nat.pow_succ] at h3;omega,by rw[kX_,strOfNums_size];simp;omega⟩
    ·show _=_
     rw[hI.out,ddGo_step o hlt]
   case measure=>simp[intOf];omega
  ·have hb:¬ 9223372036854775807<(strOfNums [48+(j:Int)]).size+o.size:=by rw[strOfNums_size];simp;omega
   have ha:¬ (10:Int)<=j:=by omega
   go_wp2
   go_returns
   go_light
   refine ⟨?_,hB.alloc hB.size _⟩
   rw[hI.out,ddGo_last o (by omega)]
   rfl
theorem spec_l1Dec (n:Int)(w:World)(h1:-1000000000000<n)(h2:n<1000000000000) :
  Calls prog 126 #[.int .i64 n] w fun e w'=>e=.returned (.string (decB n))∧Below w.heap.size w w':=by
 by_cases h:n<0
 ·obtain⟨k,rfl⟩:∃ k:Nat,n=-(k:Int):=⟨n.natAbs,by omega⟩
  have hk:0<k:=by omega
  have hR:Hid (decB (-(k:Int))=ByteArray.mk #[45]++decB k):=decB_neg hk
  generalize decB (-(k:Int))=R at *
  have he:=decB_size (n:=k) (by omega) (by omega)
  have hc:¬ 9223372036854775807<(ByteArray.mk #[45]).size+(decB k).size:=by show ¬ _<1+_;omega
  have hb:-(-(k:Int))=k:=by omega
  go_enter func126,ntmps126
  go_wp2_with fail
  refine (spec_l1Dec_pos k w (by omega)).mono ?_
  rintro e w1 ⟨rfl,ha⟩
  generalize decB (k:Int)=D at *
  go_wp2
  go_returns
  exact⟨by rw[hR.out];rfl,ha⟩
 ·obtain⟨k,rfl⟩:∃ k:Nat,n=(k:Int):=⟨n.toNat,by omega⟩
  exact spec_l1Dec_pos k w (by omega)
end
section
open Go Go.RowKit Go.BigFrame Go.Shelf _root_.Go.Proofs.Tryz
def ctL (word:ByteArray)(c:Ct):List ByteArray:=[word,decB c.o.a,decB c.o.v,c.o.f,decB c.n]
def Num (n:Int):Prop:=-1000000000000<n∧n<1000000000000
def ptW (p:Pt):List ByteArray:=[⟨#[112,97,114,116]⟩,decB p.a,decB p.f,decB p.n]
def partsW (l:List Pt):List UInt8:=l.flatMap (fun p=>lineL (ptW p))
def itW (x:It):List UInt8:=lineL [⟨#[102,105,108,101]⟩,x.nm]++partsW x.ps
def itsW (l:List It):List UInt8:=l.flatMap itW
def flagB (b:Bool):ByteArray:=if b then ⟨#[49]⟩ else ⟨#[48]⟩
def voW (v:Vo):List ByteArray:=[⟨#[118,111,108,117,109,101]⟩,decB v.id,v.nm,flagB v.fx]
def volW (v:Vo):List UInt8:=lineL (voW v)++itsW v.its
theorem partsW_take {l:List Pt}{k:Nat}{p:Pt}(h:l[k]?=some p):partsW (l.take (k+1))=partsW (l.take k)++lineL (ptW p):=by
 unfold partsW
 rw[bx_ h,ZQ];simp
theorem itsW_take {l:List It}{k:Nat}{x:It}(h:l[k]?=some x):itsW (l.take (k+1))=itsW (l.take k)++itW x:=by
 unfold itsW
 rw[bx_ h,ZQ];simp
theorem flat_take_le {α:Type}(f:α->List UInt8)(l:List α)(k:Nat):((l.take k).flatMap f).length<=(l.flatMap f).length:=by
 conv=>rhs;rw[<-YM k l,ZQ,ZE]
 omega
def NumP (l:List Pt):Prop:=∀ p∈l,Num p.a∧Num p.f∧Num p.n
def hdW (p:Po):List ByteArray:=[⟨#[112,111,111,108]⟩,decB p.size,decB p.next]
def exW (e:Ex):List ByteArray:=[⟨#[101,120,116,101,110,116]⟩,decB e.a,e.d]
def exsW (l:List Ex):List UInt8:=l.flatMap (fun e=>lineL (exW e))
def volsW (l:List Vo):List UInt8:=l.flatMap volW
def ctsW (word:ByteArray)(l:List Ct):List UInt8:=l.flatMap (fun c=>lineL (ctL word c))
def refW:ByteArray:=⟨#[114,101,102]⟩
def lateW:ByteArray:=⟨#[108,97,116,101]⟩
def textW (p:Po):List UInt8:=lineL (hdW p)++exsW p.ex++volsW p.vs++ctsW refW p.rf++ctsW lateW p.lt
def textO (p:Po):ByteArray:=if Ai p=true then ⟨(textW p).toArray⟩ else ⟨#[]⟩
structure NumO (p:Po):Prop where
 size:Num p.size
 next:Num p.next
 ex:∀ e∈p.ex,Num e.a
 vs:∀ v∈p.vs,Num v.id∧(∀ x∈v.its,NumP x.ps)∧v.its.length<=4194304∧∀ x∈v.its,x.ps.length<=4194304
 rf:∀ c∈p.rf,Num c.o.a∧Num c.o.v∧Num c.n
 lt:∀ c∈p.lt,Num c.o.a∧Num c.o.v∧Num c.n
 len:(textW p).length<=1000000
theorem flat_step {α:Type}{f:α->List UInt8}{l:List α}{k:Nat}{x:α}(h:l[k]?=some x):(l.take (k+1)).flatMap f=(l.take k).flatMap f++f x:=by
 rw[bx_ h,ZQ];simp
theorem flat_len1 {α:Type}{f:α->List UInt8}{P:List UInt8}{l:List α}{k:Nat}{x:α}(h:l[k]?=some x)(hl:(P++l.flatMap f).length<=1000000):(P++(l.take k).flatMap f++f x).length<=1000000:=by
 have h1:=flat_take_le f l (k+1)
 have h2:=congrArg List.length (flat_step (f:=f) h)
 rw[ZE] at h2 hl
 rw[ZE,ZE]
 omega
theorem word_step (a b:ByteArray)(l:List ByteArray):wordL (a::b::l)=a.data.toList++[32]++wordL (b::l):=by
 unfold wordL;simp[Lib.join]
theorem word_one (a:ByteArray):wordL [a]=a.data.toList:=by unfold wordL;simp[Lib.join]
theorem cat_dn {a b:ByteArray}(h:(a++b).size<=1000000):¬ 9223372036854775807<a.size+b.size∧a.size<=1000000:=by
 rw[kX_] at h;omega
theorem spec_l7Flag (b:Bool)(w:World):Calls prog 127 #[.bool b] w fun e w'=>e=.returned (.string (flagB b))∧w'=w:=by
 cases b<;>(go_enter func127,ntmps127;go_wp2;go_returns;exact⟨rfl,rfl⟩)
theorem ct_line (s word da dv f dn:ByteArray):s++word++⟨#[32]⟩++da++⟨#[32]⟩++dv++⟨#[32]⟩++f++⟨#[32]⟩++dn++⟨#[10]⟩=(⟨(s.data.toList++lineL [word,da,dv,f,dn]).toArray⟩:ByteArray):=by
 refine ba_eqX ?_
 unfold lineL
 simp[word_step,word_one,ByteArray.data_append]
theorem ctsW_take {word:ByteArray}{l:List Ct}{k:Nat}{c:Ct}(h:l[k]?=some c):ctsW word (l.take (k+1))=ctsW word (l.take k)++lineL (ctL word c):=flat_step h
theorem spec_l7Counts (word:ByteArray)(a:Option Addr)(n cap:Nat)(l:List Ct)(w:World)(h:A4 w a n l)(hn:n<=4194304)(hN:∀ c∈l,Num c.o.a∧Num c.o.v∧Num c.n)(hlen:(ctsW word l).length<=1000000) :
  Calls prog 128 #[.string word,.slice a n cap] w fun e w'=>e=.returned (.string ⟨(ctsW word l).toArray⟩)∧Below w.heap.size w w':=by
 have hu:Hid (l.length=n):=h.len
 obtain⟨R,hR⟩:∃ R,Hid (ctsW word l=R):=⟨_,rfl⟩
 have he:=Hid.mk' hlen
 rw[hR.out]
 clear hlen
 go_enter func128,ntmps128
 go_wp2_with fail
 go_loopw [5,6] (fun s ix wr=>∃ (k:Nat) (o:ByteArray),k<=n∧ix=.int .i64 k∧s=.string o∧Hid (o.data.toList=ctsW word (l.take k))∧Below w.heap.size w wr) (fun _ ix _=>n-(intOf ix).toNat)
 case atStart=>exact⟨0,.empty,Zg _,rfl,rfl,rfl,Yg _ _⟩
 case round=>
  obtain⟨k,o,hk,rfl,rfl,ho,hB⟩:=hrel
  by_cases hlt:k<n
  ·obtain⟨b,q,c,rfl,hc,c0,c1,c2,c3⟩:=aN_ (h.below hB) hlt
   obtain⟨⟨na1,na2⟩,⟨nv1,nv2⟩,nn1,nn2⟩:=hN c (Zc hc)
   have hx:Hid (ctsW word (l.take (k+1))=ctsW word (l.take k)++lineL (ctL word c)):=ctsW_take hc
   have hp:=flat_len1 (P:=[]) (f:=fun c=>lineL (ctL word c)) hc (by simpa [ctsW] using he.out)
   have hw:o.size=(ctsW word (l.take k)).length:=by rw[<-ho.out];rfl
   have hf:=ct_line o word (decB c.o.a) (decB c.o.v) c.o.f (decB c.n)
   have hm:=congrArg ByteArray.size hf
   have ha:((⟨(o.data.toList++lineL [word,decB c.o.a,decB c.o.v,c.o.f,decB c.n]).toArray⟩:ByteArray)).size<=1000000:=by
    show (o.data.toList++lineL _).toArray.size<=_
    rw[YI,ho.out]
    simpa [ctsW,ctL] using hp
   rw[<-hm] at ha
   have hb:Hid (o++word++⟨#[32]⟩++decB c.o.a++⟨#[32]⟩++decB c.o.v++⟨#[32]⟩++c.o.f++⟨#[32]⟩++decB c.n++⟨#[10]⟩=(⟨(o.data.toList++lineL (ctL word c)).toArray⟩:ByteArray)):=hf
   obtain⟨d1,hg⟩:∃ z,Hid (decB c.o.a=z):=⟨_,rfl⟩
   obtain⟨d2,hh⟩:∃ z,Hid (decB c.o.v=z):=⟨_,rfl⟩
   obtain⟨d3,hj⟩:∃ z,Hid (decB c.n=z):=⟨_,rfl⟩
   have k1:∀ u:World,Calls prog 126 #[.int .i64 c.o.a] u fun e w'=>e=.returned (.string d1)∧Below u.heap.size u w':=fun u=>by rw[<-hg.out];exact spec_l1Dec c.o.a u na1 na2
   have k2:∀ u:World,Calls prog 126 #[.int .i64 c.o.v] u fun e w'=>e=.returned (.string d2)∧Below u.heap.size u w':=fun u=>by rw[<-hh.out];exact spec_l1Dec c.o.v u nv1 nv2
   have k3:∀ u:World,Calls prog 126 #[.int .i64 c.n] u fun e w'=>e=.returned (.string d3)∧Below u.heap.size u w':=fun u=>by rw[<-hj.out];exact spec_l1Dec c.n u nn1 nn2
   rw[hg.out,hh.out,hj.out] at ha
   unfold Hid at hb
   rw[hg.out,hh.out,hj.out] at hb
   obtain⟨o',hq⟩:∃ z,Hid (z=(⟨(o.data.toList++lineL (ctL word c)).toArray⟩:ByteArray)):=⟨_,rfl⟩
   replace hb:Hid (_=o'):=hb.trans hq.out.symm
   obtain⟨ff,ht⟩:∃ z,c.o.f=z:=⟨_,rfl⟩
   rw[ht] at ha hb c2
   clear hf hm hp hw hx
   replace ha:(o++word++⟨#[32]⟩++d1++⟨#[32]⟩++d2++⟨#[32]⟩++ff++⟨#[32]⟩++d3++⟨#[10]⟩).size<=1000000:=ha
   obtain⟨e10,ha⟩:=cat_dn ha
   obtain⟨e9,ha⟩:=cat_dn ha
   obtain⟨e8,ha⟩:=cat_dn ha
   obtain⟨e7,ha⟩:=cat_dn ha
   obtain⟨e6,ha⟩:=cat_dn ha
   obtain⟨e5,ha⟩:=cat_dn ha
   obtain⟨e4,ha⟩:=cat_dn ha
   obtain⟨e3,ha⟩:=cat_dn ha
   obtain⟨e2,ha⟩:=cat_dn ha
   obtain⟨e1,ha⟩:=cat_dn ha
   have hl:(k:Int)<n:=by omega
   have q0:=Ae c0
   have q1:=Ae c1
   have q2:=Ae c2
   have q3:=Ae c3
   go_wp2_with fail
   refine ab_ (by kernel_rfl) (by kernel_rfl) ?_
   have hy:=aA_ wr
   iterate 11 (go_big_quiet_step (first | (go_at_call 126;exact an_ (k1 _))))
   iterate 9 (go_big_quiet_step (first | (go_at_call 126;exact an_ (k2 _))))
   iterate 19 (go_big_quiet_step (first | (go_at_call 126;exact an_ (k3 _))))
   refine wpQuiet_nil ?_
   intro w2 hr
   have hs:=Aa hB (ah_ hr)
   clear hr
   go_wp2
   go_roundw
   case rel=>
    refine ⟨k+1,_,by omega,by go_num,rfl,?_,hs⟩
    show _=_
    rw[hb.out,hq.out,ctsW_take hc,<-ho.out]
   case measure=>simp[intOf];omega
  ·obtain rfl:k=n:=by omega
   have hl:¬ (k:Int)<k:=by omega
   go_wp2
   go_returns
   rw[Zk (by rw[hu.out];exact Zd _),hR.out] at ho
   have hv:o=⟨R.toArray⟩:=ba_eqX (by simpa using ho.out)
   subst hv
   exact⟨rfl,hB⟩
theorem line_next {o n:ByteArray}{W P:List UInt8}(hn:n=⟨(o.data.toList++W).toArray⟩)(ho:o.data.toList=P):n.data.toList=P++W:=by
 rw[hn,<-ho]
theorem spec_l7Text (B0:Nat)(v:Value)(p:Po)(w:World)(h:AF B0 w v p)(hd:AB p)(hN:NumO p) :
  Calls prog 75 #[v] w fun e w'=>e=.returned (.string ⟨(textW p).toArray⟩)∧Below w.heap.size w w':=by
 obtain⟨ea,en,ec,va,vn,vc,ra,rn,rc,la,ln,lc,rfl,⟨h1,_⟩,⟨h2,_⟩,⟨h3,_⟩,h4,_⟩:=h
 obtain⟨R,hR⟩:∃ R,Hid (textW p=R):=⟨_,rfl⟩
 have hc:=hN.len
 rw[hR.out] at hc
 rw[hR.out]
 obtain⟨L1,hD⟩:∃ x,Hid (lineL (hdW p)=x):=⟨_,rfl⟩
 obtain⟨L2,hL⟩:∃ x,Hid (L1++exsW p.ex=x):=⟨_,rfl⟩
 obtain⟨L3,hM⟩:∃ x,Hid (L2++volsW p.vs=x):=⟨_,rfl⟩
 obtain⟨L4,hO⟩:∃ x,Hid (L3++ctsW refW p.rf=x):=⟨_,rfl⟩
 have h7:Hid (L4++ctsW lateW p.lt=R):=by show _=_;rw[<-hR.out,<-hO.out,<-hM.out,<-hL.out,<-hD.out];rfl
 have l5:Hid ((L4++ctsW lateW p.lt).length<=1000000):=by show _<=_;rw[h7.out];exact hc
 have l4:Hid ((L3++ctsW refW p.rf).length<=1000000):=by have:=l5.out;rw[ZE] at this;show _<=_;rw[hO.out];omega
 have l3:Hid ((L2++volsW p.vs).length<=1000000):=by have:=l4.out;rw[ZE] at this;show _<=_;rw[hM.out];omega
 have l2:Hid ((L1++exsW p.ex).length<=1000000):=by have:=l3.out;rw[ZE] at this;show _<=_;rw[hL.out];omega
 have l1:Hid ((lineL (hdW p)).length<=1000000):=by have:=l2.out;rw[ZE,<-hD.out] at this;show _<=_;omega
 have qA:Hid (p.ex.length=en):=h1.len
 have qz:Hid (p.vs.length=vn):=h2.len
 have qM:en<=4194304:=by rw[<-h1.len];exact hd.1
 have qN:vn<=4194304:=by rw[<-h2.len];exact hd.2.2.1
 have qD:rn<=4194304:=by rw[<-h3.len];exact hd.2.2.2.2.1
 have qE:ln<=4194304:=by rw[<-h4.len];exact hd.2.2.2.2.2.2.1
 obtain⟨sz1,sz2⟩:=hN.size
 obtain⟨nx1,nx2⟩:=hN.next
 obtain⟨ds,qe⟩:∃ zz,Hid (decB p.size=zz):=⟨_,rfl⟩
 have kds:∀ u:World,Calls prog 126 #[.int .i64 p.size] u fun e w'=>e=.returned (.string ds)∧Below u.heap.size u w':=fun u=>by rw[<-qe.out];exact spec_l1Dec p.size u sz1 sz2
 obtain⟨dn,qd⟩:∃ zz,Hid (decB p.next=zz):=⟨_,rfl⟩
 have kdn:∀ u:World,Calls prog 126 #[.int .i64 p.next] u fun e w'=>e=.returned (.string dn)∧Below u.heap.size u w':=fun u=>by rw[<-qd.out];exact spec_l1Dec p.next u nx1 nx2
 obtain⟨s0,hK⟩:∃ z,Hid (z=(⟨#[112,111,111,108,32]⟩++ds++⟨#[32]⟩++dn++⟨#[10]⟩:ByteArray)):=⟨_,rfl⟩
 have hh:Hid (s0.data.toList=L1):=by
  show _=_
  rw[hK.out,<-hD.out]
  unfold hdW lineL
  rw[qe.out,qd.out]
  simp[word_step,word_one,ByteArray.data_append]
 have t0:((⟨#[112,111,111,108,32]⟩:ByteArray)++ds++⟨#[32]⟩++dn++⟨#[10]⟩).size<=1000000:=by
  rw[<-hK.out]
  show s0.data.size<=_
  rw[<-Array.length_toList,hh.out,<-hD.out]
  exact l1.out
 obtain⟨e04,t0⟩:=cat_dn t0
 obtain⟨e03,t0⟩:=cat_dn t0
 obtain⟨e02,t0⟩:=cat_dn t0
 obtain⟨e01,_⟩:=cat_dn t0
 go_enter func75,ntmps75
 have C:=Blk.new w #[.int .i64 p.size,.int .i64 p.next,.slice ea en ec,.slice va vn vc,.slice ra rn rc,.slice la ln lc] 28
 have hn:Below w.heap.size w (w.alloc (.cells #[.int .i64 p.size,.int .i64 p.next,.slice ea en ec,.slice va vn vc,.slice ra rn rc,.slice la ln lc] 28)):=by go_grown
 go_wp2_with fail
 replace h1:=h1.below hn
 replace h2:=h2.below hn
 replace h3:=h3.below hn
 replace h4:=h4.below hn
 generalize w.alloc (.cells #[.int .i64 p.size,.int .i64 p.next,.slice ea en ec,.slice va vn vc,.slice ra rn rc,.slice la ln lc] 28)=W at *
 have q0:=Ae (C.cell 0)
 have q1:=Ae (C.cell 1)
 refine ab_ (by kernel_rfl) (by kernel_rfl) ?_
 have hJ:=aA_ W
 iterate 3 (go_big_quiet_step (first | (go_at_call 126;exact an_ (kds _))))
 iterate 5 (go_big_quiet_step (first | (go_at_call 126;exact an_ (kdn _))))
 iterate 3 (go_big_quiet_step (fail))
 refine wpQuiet_nil ?_
 intro w1 qo
 have h6:=ah_ qo
 rw[<-hK.out]
 clear qo q0 q1 e01 e02 e03 e04 t0
 go_wp2_with fail
 go_loopw [3,4] (fun s ix wr=>∃ (k:Nat) (o:ByteArray),k<=en∧ix=.int .i64 k∧s=.string o∧Hid (o.data.toList=L1++exsW (p.ex.take k))∧Below W.heap.size W wr) (fun _ ix _=>en-(intOf ix).toNat)
 case atStart=>exact⟨0,s0,Zg _,rfl,rfl,by show _=_;rw[hh.out];simp[exsW],h6⟩
 case round=>
  clear h6 hh hK kds kdn
  obtain⟨k,o,hk,rfl,rfl,ho,hB⟩:=hrel
  have y2:=(C.below hB).cell 2
  by_cases hlt:k<en
  ·obtain⟨eb,eo,x,rfl,hx,c0,c1⟩:=be_ (h1.below hB) hlt
   obtain⟨na1,na2⟩:=hN.ex x (Zc hx)
   have hf:Hid (exsW (p.ex.take (k+1))=exsW (p.ex.take k)++lineL (exW x)):=flat_step hx
   have ha:=flat_len1 (f:=fun e=>lineL (exW e)) hx l2.out
   change (L1++exsW (p.ex.take k)++lineL (exW x)).length<=1000000 at ha
   rw[<-ho.out] at ha
   obtain⟨da,hg⟩:∃ zz,Hid (decB x.a=zz):=⟨_,rfl⟩
   have kda:∀ u:World,Calls prog 126 #[.int .i64 x.a] u fun e w'=>e=.returned (.string da)∧Below u.heap.size u w':=fun u=>by rw[<-hg.out];exact spec_l1Dec x.a u na1 na2
   obtain⟨xd,hY⟩:∃ z,Hid (x.d=z):=⟨_,rfl⟩
   unfold exW at ha
   rw[hg.out,hY.out] at ha
   rw[hY.out] at c1
   obtain⟨nA,hV⟩:∃ z,Hid (z=(⟨(o.data.toList++lineL [⟨#[101,120,116,101,110,116]⟩,da,xd]).toArray⟩:ByteArray)):=⟨_,rfl⟩
   have qb:Hid (o++⟨#[101,120,116,101,110,116,32]⟩++da++⟨#[32]⟩++xd++⟨#[10]⟩=nA):=by show _=_;rw[hV.out];refine ba_eqX ?_;unfold lineL;simp[word_step,word_one,ByteArray.data_append]
   have tA:(o++⟨#[101,120,116,101,110,116,32]⟩++da++⟨#[32]⟩++xd++⟨#[10]⟩).size<=1000000:=by rw[qb.out,hV.out];show (o.data.toList++lineL [⟨#[101,120,116,101,110,116]⟩,da,xd]).toArray.size<=_;rw[YI];exact ha
   obtain⟨eA5,tA⟩:=cat_dn tA
   obtain⟨eA4,tA⟩:=cat_dn tA
   obtain⟨eA3,tA⟩:=cat_dn tA
   obtain⟨eA2,tA⟩:=cat_dn tA
   obtain⟨eA1,tA⟩:=cat_dn tA
   have hU:(k:Int)<en:=by omega
   have q0:=Ae c0
   have q1:=Ae c1
   have q2:=Ae y2
   clear ha c0 c1 tA h2 h3 h4
   go_wp2_with fail
   refine ab_ (by kernel_rfl) (by kernel_rfl) ?_
   have hJ:=aA_ wr
   iterate 9 (go_big_quiet_step (first | (go_at_call 126;exact an_ (kda _))))
   iterate 11 (go_big_quiet_step (fail))
   refine wpQuiet_nil ?_
   intro w2 hA
   have hC:=Aa hB (ah_ hA)
   clear hA
   rw[qb.out]
   go_wp2
   go_roundw
   case rel=>
    refine ⟨k+1,nA,by omega,by go_num,rfl,(line_next hV.out ho.out).trans ?_,hC⟩
    rw[hf.out,<-ZC]
    unfold exW
    rw[hg.out,hY.out]
   case measure=>simp[intOf];omega
  ·have qf:¬ (k:Int)<en:=by omega
   have hp:Hid (k=en):=by show _=_;omega
   replace ho:Hid (o.data.toList=L2):=by
    have:=ho.out
    rw[Zk (by rw[qA.out,hp.out];exact Zd _),hL.out] at this
    exact this
   go_wp2_with fail
   clear qf hp hlt hk y2
   go_loopw [3,5] (fun s ix wr=>∃ (k:Nat) (o:ByteArray),k<=vn∧ix=.int .i64 k∧s=.string o∧Hid (o.data.toList=L2++volsW (p.vs.take k))∧Below W.heap.size W wr) (fun _ ix _=>vn-(intOf ix).toNat)
   case atStart=>exact⟨0,o,Zg _,rfl,rfl,by show _=_;rw[ho.out];simp[volsW],hB⟩
   case round=>
    clear ho hB h1
    obtain⟨k2,o2,hk,rfl,rfl,ho,hB⟩:=hrel
    have y3:=(C.below hB).cell 3
    by_cases hlt:k2<vn
    ·obtain⟨vb,vo,x,pa,pn,pc,rfl,hx,c0,c1,c2,c3,hI,_,_⟩:=b5_ (h2.below hB) hlt
     obtain⟨⟨na1,na2⟩,qG,qF,qH⟩:=hN.vs x (Zc hx)
     have hf:Hid (volsW (p.vs.take (k2+1))=volsW (p.vs.take k2)++volW x):=flat_step hx
     have ha:=flat_len1 (f:=volW) hx l3.out
     change (L2++volsW (p.vs.take k2)++volW x).length<=1000000 at ha
     have qB:Hid (x.its.length=pn):=hI.len
     have qO:pn<=4194304:=by rw[<-hI.len];exact qF
     obtain⟨da,hg⟩:∃ zz,Hid (decB x.id=zz):=⟨_,rfl⟩
     have kda:∀ u:World,Calls prog 126 #[.int .i64 x.id] u fun e w'=>e=.returned (.string da)∧Below u.heap.size u w':=fun u=>by rw[<-hg.out];exact spec_l1Dec x.id u na1 na2
     obtain⟨xn,h0⟩:∃ z,Hid (x.nm=z):=⟨_,rfl⟩
     obtain⟨xf,hZ⟩:∃ z,Hid (x.fx=z):=⟨_,rfl⟩
     obtain⟨fl,hT⟩:∃ z,Hid (flagB xf=z):=⟨_,rfl⟩
     have kfl:∀ u:World,Calls prog 127 #[.bool xf] u fun e w'=>e=.returned (.string fl)∧w'=u:=fun u=>by rw[<-hT.out];exact spec_l7Flag xf u
     rw[h0.out] at c1
     rw[hZ.out] at c2
     obtain⟨Lv,hF⟩:∃ z,Hid (L2++volsW (p.vs.take k2)++lineL (voW x)=z):=⟨_,rfl⟩
     have hX:Hid (voW x=[⟨#[118,111,108,117,109,101]⟩,da,xn,fl]):=by show _=_;unfold voW;rw[hg.out,h0.out,hZ.out,hT.out]
     have hv:Hid (L2++volsW (p.vs.take (k2+1))=Lv++itsW x.its):=by show _=_;rw[hf.out,<-hF.out];unfold volW;simp
     have hq:Hid ((Lv++itsW x.its).length<=1000000):=by show _<=_;rw[<-hv.out,hf.out,<-ZC];exact ha
     have he:(o2.data.toList++lineL [⟨#[118,111,108,117,109,101]⟩,da,xn,fl]).length<=1000000:=by
      have:=hq.out
      rw[ZE,<-hF.out,hX.out,<-ho.out] at this
      omega
     clear ha
     obtain⟨nB,hG⟩:∃ z,Hid (z=(⟨(o2.data.toList++lineL [⟨#[118,111,108,117,109,101]⟩,da,xn,fl]).toArray⟩:ByteArray)):=⟨_,rfl⟩
     have hQ:Hid (o2++⟨#[118,111,108,117,109,101,32]⟩++da++⟨#[32]⟩++xn++⟨#[32]⟩++fl++⟨#[10]⟩=nB):=by show _=_;rw[hG.out];refine ba_eqX ?_;unfold lineL;simp[word_step,word_one,ByteArray.data_append]
     have tB:(o2++⟨#[118,111,108,117,109,101,32]⟩++da++⟨#[32]⟩++xn++⟨#[32]⟩++fl++⟨#[10]⟩).size<=1000000:=by rw[hQ.out,hG.out];show (o2.data.toList++lineL [⟨#[118,111,108,117,109,101]⟩,da,xn,fl]).toArray.size<=_;rw[YI];exact he
     obtain⟨eB7,tB⟩:=cat_dn tB
     obtain⟨eB6,tB⟩:=cat_dn tB
     obtain⟨eB5,tB⟩:=cat_dn tB
     obtain⟨eB4,tB⟩:=cat_dn tB
     obtain⟨eB3,tB⟩:=cat_dn tB
     obtain⟨eB2,tB⟩:=cat_dn tB
     obtain⟨eB1,tB⟩:=cat_dn tB
     have hU:(k2:Int)<vn:=by omega
     clear he tB hf
     go_wp2_with fail
     have D:=Blk.new wr #[.int .i64 x.id,.string xn,.bool xf,.slice pa pn pc] 38
     have qv:Below W.heap.size W (wr.alloc (.cells #[.int .i64 x.id,.string xn,.bool xf,.slice pa pn pc] 38)):=hB.alloc hB.size _
     have qw:=hI.below (hb:=(Yg _ wr).alloc (Zd _) (.cells #[.int .i64 x.id,.string xn,.bool xf,.slice pa pn pc] 38))
     clear c0 c1 c2 c3 y3 hI
     generalize wr.alloc (.cells #[.int .i64 x.id,.string xn,.bool xf,.slice pa pn pc] 38)=V at *
     have q0:=Ae (D.cell 0)
     have q1:=Ae (D.cell 1)
     have q2:=Ae (D.cell 2)
     refine ab_ (by kernel_rfl) (by kernel_rfl) ?_
     have hJ:=aA_ V
     iterate 5 (go_big_quiet_step (first | (go_at_call 126;exact an_ (kda _))))
     iterate 9 (go_big_quiet_step (first | (go_at_call 127;exact am_ (kfl _))))
     iterate 3 (go_big_quiet_step (fail))
     refine wpQuiet_nil ?_
     intro w2 hA
     have hC:=ah_ hA
     clear hA q0 q1 q2 kda kfl
     rw[hQ.out]
     have ql:Hid (nB.data.toList=Lv):=(line_next hG.out ho.out).trans (by rw[<-hF.out,hX.out])
     clear hG hQ hX hF hg h0 hZ hT ho hB
     go_wp2_with fail
     go_loopw [3,7] (fun s ix wr=>∃ (k:Nat) (o:ByteArray),k<=pn∧ix=.int .i64 k∧s=.string o∧Hid (o.data.toList=Lv++itsW (x.its.take k))∧Below V.heap.size V wr) (fun _ ix _=>pn-(intOf ix).toNat)
     case atStart=>exact⟨0,nB,Zg _,rfl,rfl,by show _=_;rw[ql.out];simp[itsW],hC⟩
     case round=>
      clear ql hC
      obtain⟨j,o3,hj,rfl,rfl,ho,hB⟩:=hrel
      obtain⟨wj,rfl⟩:∃ z,z=wr:=⟨_,rfl⟩
      have y3:=(D.below hB).cell 3
      by_cases hltj:j<pn
      ·obtain⟨ib,io,y,ga,gn,gc,rfl,hy,c0,c1,hP,_,_,_⟩:=bO_ (qw.below hB) hltj
       have qr:=Zc hy
       have qI:=qG y qr
       have qx:Hid (y.ps.length=gn):=hP.len
       have qJ:gn<=4194304:=by rw[<-hP.len];exact qH y qr
       have hf:Hid (itsW (x.its.take (j+1))=itsW (x.its.take j)++itW y):=itsW_take hy
       have ha:=flat_len1 (f:=itW) hy hq.out
       change (Lv++itsW (x.its.take j)++itW y).length<=1000000 at ha
       obtain⟨yn,h5⟩:∃ z,Hid (y.nm=z):=⟨_,rfl⟩
       rw[h5.out] at c0
       obtain⟨Lf,hE⟩:∃ z,Hid (Lv++itsW (x.its.take j)++lineL [⟨#[102,105,108,101]⟩,yn]=z):=⟨_,rfl⟩
       have hw:Hid (Lv++itsW (x.its.take (j+1))=Lf++partsW y.ps):=by show _=_;rw[hf.out,<-hE.out];unfold itW;rw[h5.out];simp
       have qi:Hid ((Lf++partsW y.ps).length<=1000000):=by show _<=_;rw[<-hw.out,hf.out,<-ZC];exact ha
       have he:(o3.data.toList++lineL [⟨#[102,105,108,101]⟩,yn]).length<=1000000:=by
        have:=qi.out
        rw[ZE,<-hE.out,<-ho.out] at this
        omega
       clear ha
       obtain⟨nF,hH⟩:∃ z,Hid (z=(⟨(o3.data.toList++lineL [⟨#[102,105,108,101]⟩,yn]).toArray⟩:ByteArray)):=⟨_,rfl⟩
       have hS:Hid (o3++⟨#[102,105,108,101,32]⟩++yn++⟨#[10]⟩=nF):=by show _=_;rw[hH.out];refine ba_eqX ?_;unfold lineL;simp[word_step,word_one,ByteArray.data_append]
       have tF:(o3++⟨#[102,105,108,101,32]⟩++yn++⟨#[10]⟩).size<=1000000:=by rw[hS.out,hH.out];show (o3.data.toList++lineL [⟨#[102,105,108,101]⟩,yn]).toArray.size<=_;rw[YI];exact he
       obtain⟨eF3,tF⟩:=cat_dn tF
       obtain⟨eF2,tF⟩:=cat_dn tF
       obtain⟨eF1,tF⟩:=cat_dn tF
       have qj:(j:Int)<pn:=by omega
       clear he tF hf
       have qm:Hid (nF.data.toList=Lf):=(line_next hH.out ho.out).trans hE.out
       go_wp2_with fail
       rw[hS.out]
       clear hS hH hE ho h5 eF1 eF2 eF3
       go_loopw [3,8] (fun s ix wr=>∃ (m:Nat) (o:ByteArray),m<=gn∧ix=.int .i64 m∧s=.string o∧Hid (o.data.toList=Lf++partsW (y.ps.take m))∧Below wj.heap.size wj wr) (fun _ ix _=>gn-(intOf ix).toNat)
       case atStart=>exact⟨0,nF,Zg _,rfl,rfl,by show _=_;rw[qm.out];simp[partsW],Yg _ _⟩
       case round=>
        clear qm
        obtain⟨m,o4,hm,rfl,rfl,ho,hl⟩:=hrel
        have c1':=Ab hl c1
        have y3':=Ab hl y3
        by_cases hltm:m<gn
        ·obtain⟨gb,go,z,rfl,hz,d0,d1,d2⟩:=bi_ (hP.below hl) hltm
         obtain⟨⟨za1,za2⟩,⟨zf1,zf2⟩,zn1,zn2⟩:=qI z (Zc hz)
         have hf:Hid (partsW (y.ps.take (m+1))=partsW (y.ps.take m)++lineL (ptW z)):=partsW_take hz
         have ha:=flat_len1 (f:=fun q=>lineL (ptW q)) hz qi.out
         change (Lf++partsW (y.ps.take m)++lineL (ptW z)).length<=1000000 at ha
         rw[<-ho.out] at ha
         obtain⟨pa1,hr⟩:∃ zz,Hid (decB z.a=zz):=⟨_,rfl⟩
         have kpa1:∀ u:World,Calls prog 126 #[.int .i64 z.a] u fun e w'=>e=.returned (.string pa1)∧Below u.heap.size u w':=fun u=>by rw[<-hr.out];exact spec_l1Dec z.a u za1 za2
         obtain⟨pf1,hs⟩:∃ zz,Hid (decB z.f=zz):=⟨_,rfl⟩
         have kpf1:∀ u:World,Calls prog 126 #[.int .i64 z.f] u fun e w'=>e=.returned (.string pf1)∧Below u.heap.size u w':=fun u=>by rw[<-hs.out];exact spec_l1Dec z.f u zf1 zf2
         obtain⟨pn1,ht⟩:∃ zz,Hid (decB z.n=zz):=⟨_,rfl⟩
         have kpn1:∀ u:World,Calls prog 126 #[.int .i64 z.n] u fun e w'=>e=.returned (.string pn1)∧Below u.heap.size u w':=fun u=>by rw[<-ht.out];exact spec_l1Dec z.n u zn1 zn2
         have qn:Hid (ptW z=[⟨#[112,97,114,116]⟩,pa1,pf1,pn1]):=by show _=_;unfold ptW;rw[hr.out,hs.out,ht.out]
         rw[qn.out] at ha
         obtain⟨nG,hW⟩:∃ z,Hid (z=(⟨(o4.data.toList++lineL [⟨#[112,97,114,116]⟩,pa1,pf1,pn1]).toArray⟩:ByteArray)):=⟨_,rfl⟩
         have qc:Hid (o4++⟨#[112,97,114,116,32]⟩++pa1++⟨#[32]⟩++pf1++⟨#[32]⟩++pn1++⟨#[10]⟩=nG):=by show _=_;rw[hW.out];refine ba_eqX ?_;unfold lineL;simp[word_step,word_one,ByteArray.data_append]
         have tG:(o4++⟨#[112,97,114,116,32]⟩++pa1++⟨#[32]⟩++pf1++⟨#[32]⟩++pn1++⟨#[10]⟩).size<=1000000:=by rw[qc.out,hW.out];show (o4.data.toList++lineL [⟨#[112,97,114,116]⟩,pa1,pf1,pn1]).toArray.size<=_;rw[YI];exact ha
         obtain⟨eG7,tG⟩:=cat_dn tG
         obtain⟨eG6,tG⟩:=cat_dn tG
         obtain⟨eG5,tG⟩:=cat_dn tG
         obtain⟨eG4,tG⟩:=cat_dn tG
         obtain⟨eG3,tG⟩:=cat_dn tG
         obtain⟨eG2,tG⟩:=cat_dn tG
         obtain⟨eG1,tG⟩:=cat_dn tG
         have qk:(m:Int)<gn:=by omega
         clear ha tG
         go_wp2_with fail
         have E:=Blk.new wr #[.int .i64 z.a,.int .i64 z.f,.int .i64 z.n] 146
         have qu:Below wj.heap.size wj (wr.alloc (.cells #[.int .i64 z.a,.int .i64 z.f,.int .i64 z.n] 146)):=hl.alloc hl.size _
         clear d0 d1 d2 c1' y3'
         generalize wr.alloc (.cells #[.int .i64 z.a,.int .i64 z.f,.int .i64 z.n] 146)=V2 at *
         have q0:=Ae (E.cell 0)
         have q1:=Ae (E.cell 1)
         have q2:=Ae (E.cell 2)
         refine ab_ (by kernel_rfl) (by kernel_rfl) ?_
         have hJ:=aA_ V2
         iterate 5 (go_big_quiet_step (first | (go_at_call 126;exact an_ (kpa1 _))))
         iterate 5 (go_big_quiet_step (first | (go_at_call 126;exact an_ (kpf1 _))))
         iterate 5 (go_big_quiet_step (first | (go_at_call 126;exact an_ (kpn1 _))))
         iterate 3 (go_big_quiet_step (fail))
         refine wpQuiet_nil ?_
         intro w5 qp
         have qs:=Aa qu (ah_ qp)
         clear qp q0 q1 q2
         rw[qc.out]
         go_wp2
         go_roundw
         case rel=>
          refine ⟨m+1,nG,by omega,by go_num,rfl,(line_next hW.out ho.out).trans ?_,qs⟩
          rw[hf.out,<-ZC,qn.out]
         case measure=>simp[intOf];omega
        ·have qL:¬ (m:Int)<gn:=by omega
         have qC:Hid (m=gn):=by show _=_;omega
         replace ho:Hid (o4.data.toList=Lf++partsW y.ps):=by
          have:=ho.out
          rw[Zk (by rw[qx.out,qC.out];exact Zd _)] at this
          exact this
         go_wp2
         go_roundw
         case rel=>exact⟨j+1,o4,by omega,by go_num,rfl,ho.out.trans hw.out.symm,Aa hB hl⟩
         case measure=>simp[intOf];omega
      ·have qK:¬ (j:Int)<pn:=by omega
       have qy:Hid (j=pn):=by show _=_;omega
       replace ho:Hid (o3.data.toList=Lv++itsW x.its):=by
        have:=ho.out
        rw[Zk (by rw[qB.out,qy.out];exact Zd _)] at this
        exact this
       go_wp2
       go_roundw
       case rel=>exact⟨k2+1,o3,by omega,by go_num,rfl,ho.out.trans hv.out.symm,Aa qv hB⟩
       case measure=>simp[intOf];omega
    ·have qf:¬ (k2:Int)<vn:=by omega
     have hp:Hid (k2=vn):=by show _=_;omega
     replace ho:Hid (o2.data.toList=L3):=by
      have:=ho.out
      rw[Zk (by rw[qz.out,hp.out];exact Zd _),hM.out] at this
      exact this
     obtain⟨T1,h8⟩:∃ z:ByteArray,Hid (⟨(ctsW refW p.rf).toArray⟩=z):=⟨_,rfl⟩
     obtain⟨T2,h9⟩:∃ z:ByteArray,Hid (⟨(ctsW lateW p.lt).toArray⟩=z):=⟨_,rfl⟩
     have qg:(ctsW refW p.rf).length<=1000000:=by have:=l4.out;rw[ZE] at this;omega
     have qh:(ctsW lateW p.lt).length<=1000000:=by have:=l5.out;rw[ZE] at this;omega
     have r1:∀ u:World,Below wr.heap.size wr u->Calls prog 128 #[.string ⟨#[114,101,102]⟩,.slice ra rn rc] u fun e w'=>e=.returned (.string T1)∧Below u.heap.size u w':=fun u hu=>by rw[<-h8.out];exact spec_l7Counts refW ra rn rc p.rf u ((h3.below hB).below hu) qD hN.rf qg
     have r2:∀ u:World,Below wr.heap.size wr u->Calls prog 128 #[.string ⟨#[108,97,116,101]⟩,.slice la ln lc] u fun e w'=>e=.returned (.string T2)∧Below u.heap.size u w':=fun u hu=>by rw[<-h9.out];exact spec_l7Counts lateW la ln lc p.lt u ((h4.below hB).below hu) qE hN.lt qh
     have qa:Hid (o2++T1++T2=⟨R.toArray⟩):=by
      show _=_
      rw[<-h8.out,<-h9.out]
      refine ba_eqX ?_
      rw[<-h7.out,<-hO.out,<-ho.out]
      simp[ByteArray.data_append]
     have tR:(o2++T1++T2).size<=1000000:=by rw[qa.out];show R.toArray.size<=_;rw[YI];exact hc
     obtain⟨e2,tR⟩:=cat_dn tR
     obtain⟨e1,tR⟩:=cat_dn tR
     have q4:=Ae ((C.below hB).cell 4)
     have q5:=Ae ((C.below hB).cell 5)
     clear hp tR qg qh
     go_wp2_with fail
     refine ab_ (by kernel_rfl) (by kernel_rfl) ?_
     have hJ:=aA_ wr
     iterate 4 (go_big_quiet_step (first | (go_at_call 128;exact an_ (r1 _ (Grw.h _)))))
     iterate 4 (go_big_quiet_step (first | (go_at_call 128;exact an_ (r2 _ (Grw.h _)))))
     iterate 2 (go_big_quiet_step (fail))
     refine wpQuiet_nil ?_
     intro w6 qq
     have qt:=Aa (Aa hn hB) (ah_ qq)
     clear qq
     rw[qa.out]
     go_wp2
     go_returns
     exact⟨rfl,qt⟩
theorem spec_PoolText (B0:Nat)(hB0:0<B0)(v:Value)(p:Po)(w:World)(h:AF B0 w v p)(hd:AB p)(hN:Ai p=true->NumO p) :
  Calls prog 26 #[v] w fun e w'=>e=.returned (.string (textO p))∧Below w.heap.size w w':=by
 have he:=h
 obtain⟨ea,en,ec,va,vn,vc,ra,rn,rc,la,ln,lc,rfl,_⟩:=h
 have C:=Blk.new w #[.int .i64 p.size,.int .i64 p.next,.slice ea en ec,.slice va vn vc,.slice ra rn rc,.slice la ln lc] 28
 cases hp:Ai p
 ·have hO:textO p=⟨#[]⟩:=by unfold textO;rw[hp];rfl
  rw[hO]
  go_enter func26,ntmps26
  go_wp2_with fail
  refine (ep_ B0 hB0 _ p _ (he.below (by go_grown)) hd).mono ?_
  rintro e w1 ⟨rfl,hc⟩
  have ha:Below w.heap.size w w1:=Aa (by go_grown) hc
  clear hc he C
  rw[hp]
  go_wp2_with fail
  go_returns
  exact⟨rfl,ha⟩
 ·have hO:textO p=⟨(textW p).toArray⟩:=by unfold textO;rw[hp];rfl
  rw[hO]
  have hg:=hN hp
  obtain⟨T,hT⟩:∃ z,Hid ((⟨(textW p).toArray⟩:ByteArray)=z):=⟨_,rfl⟩
  have hb:=fun (u:World) (hu:Below w.heap.size w u)=>spec_l7Text B0 _ p u (he.below hu) hd hg
  rw[hT.out] at hb
  rw[hT.out]
  go_enter func26,ntmps26
  go_wp2_with fail
  refine (ep_ B0 hB0 _ p _ (he.below (by go_grown)) hd).mono ?_
  rintro e w1 ⟨rfl,hc⟩
  have ha:Below w.heap.size w w1:=Aa (by go_grown) hc
  replace C:=C.below hc
  have c0:=C.cell 0
  have c1:=C.cell 1
  have c2:=C.cell 2
  have c3:=C.cell 3
  have c4:=C.cell 4
  have c5:=C.cell 5
  clear hc he C
  rw[hp]
  go_wp2_with fail
  refine (hb w1 ha).mono ?_
  rintro e w2 ⟨rfl,hf⟩
  go_wp2
  go_returns
  exact⟨rfl,Aa ha hf⟩
theorem xgo_eachT {size:Int}:∀ {l:List Ex} {next:Int},xgo size next l=true->1<=next->∀ e∈l,1<=e.a∧e.a<=size+1∧e.d.size<=20
 |[],_,_,_=>by simp
 |e::r,next,h,h1=>by
  simp only[xgo,As,Zf,ZU] at h
  intro x hx
  rcases Zn.1 hx with rfl | hx
  ·omega
  ·exact xgo_eachT h.2 (by omega) x hx
theorem vgo_eachT {next:Int}{e:List Ex}:∀ {l:List Vo} {last:Int},vgo next e last l=true->0<=last->∀ v∈l,0<v.id∧v.id<next∧v.nm.size<=8∧v.its.length<=5∧igo e none v.its=true
 |[],_,_,_=>by simp
 |v::r,last,h,h1=>by
  simp only[vgo,itemsB,nameB,Zf,ZU] at h
  obtain⟨⟨⟨⟨a1,a2⟩,a3⟩,a4⟩,a5⟩:=h
  intro x hx
  rcases Zn.1 hx with rfl | hx
  ·exact⟨by omega,a2,a3.1.2,a4.1,a4.2⟩
  ·exact vgo_eachT a5 (by omega) x hx
theorem igo_eachT {e:List Ex}:∀ {l:List It} {q:Option It},igo e q l=true->∀ x∈l,x.nm.size<=8∧Ac x.ps=true
 |[],_,_=>by simp
 |y::r,q,h=>by
  simp only[igo,nameB,Zf,ZU] at h
  obtain⟨⟨⟨a1,_⟩,a3⟩,a4⟩:=h
  intro x hx
  rcases Zn.1 hx with rfl | hx
  ·refine ⟨a1.1.2,?_⟩
   unfold Aj at a3
   split at a3
   ·rename_i h;exact h.1
   ·cases a3
  ·exact igo_eachT a4 x hx
theorem part_num {p:Pt}(h:Ag p=true)(hn:p.n<=100):Num p.a∧Num p.f∧Num p.n:=by
 unfold Ag at h
 unfold Num
 split at h
 ·rename_i ha
  simp only[Zf,ZU,beq_iff_eq] at h ha
  omega
 ·simp only[Zf,ZU] at h
  omega
theorem word_lenT:∀ (l:List ByteArray),(wordL l).length<=(l.map (fun x=>x.size+1)).sum
 |[]=>by unfold wordL;simp[Lib.join]
 |[a]=>by rw[word_one];simp
 |a::b::l=>by
  rw[word_step]
  have:=word_lenT (b::l)
  simp at this ⊢
  omega
theorem flat_lenT {α:Type}{f:α->List UInt8}{m:Nat}:∀ {l:List α},(∀ x∈l,(f x).length<=m)->(l.flatMap f).length<=l.length*m
 |[],_=>by simp
 |x::r,h=>by
  have h1:=h x (by simp)
  have h2:=flat_lenT (l:=r) fun y hy=>h y (by simp[hy])
  rw[ZF,ZE,Zw,Yd]
  omega
theorem dec_num {n:Int}(h:Num n):(decB n).size<=13:=decB_size h.1 h.2
theorem ct_num {c:Ct}(h:AX c.o=true)(h1:-1000<=c.n)(h2:c.n<=1000):(Num c.o.a∧Num c.o.v∧Num c.n)∧c.o.f.size<=8:=by
 simp only[AX,nameB,Zf,ZU] at h
 unfold Num
 omega
theorem ct_lenT {word:ByteArray}{c:Ct}(hw:word.size<=4)(h:Num c.o.a∧Num c.o.v∧Num c.n)(hf:c.o.f.size<=8):(lineL (ctL word c)).length<=60:=by
 have h1:=word_lenT (ctL word c)
 have:=dec_num h.1
 have:=dec_num h.2.1
 have:=dec_num h.2.2
 unfold lineL
 simp[ctL] at h1 ⊢
 omega
theorem poolB_two {p:Po}(h:Ai p=true):AN p.rf=true∧A3 p.lt=true:=by
 simp only[Ai,Zf] at h
 have h1:=h.1.2
 by_cases hh:AN p.rf=true∧A3 p.lt=true
 ·exact hh
 ·unfold Aq at h1
  rw[if_neg hh] at h1
  cases h1
theorem numO_of {p:Po}(h:Ai p=true):NumO p:=by
 obtain⟨v1,v2,v3,v4,_⟩:=bL_ h
 obtain⟨s1,s2,s3,s4⟩:=cu_ v4
 obtain⟨r1,r2⟩:=poolB_two h
 have ha:1<=p.next:=by
  simp only[Ai,Zf,ZU] at h
  exact h.1.1.1.1.1.2
 have hE:=xgo_eachT s4 (by omega)
 have hV:=vgo_eachT v2 (by omega)
 simp only[AN,Zf,ZU] at r1
 simp only[A3,Zf,ZU,List.all_eq_true] at r2
 have hR:∀ c∈p.rf,(Num c.o.a∧Num c.o.v∧Num c.n)∧c.o.f.size<=8:=fun c hc=>by
  have:=g1_ r1.2 c hc
  simp only[CG,Zf,ZU] at this
  exact ct_num this.1.1 (by omega) this.2
 have hL:∀ c∈p.lt,(Num c.o.a∧Num c.o.v∧Num c.n)∧c.o.f.size<=8:=fun c hc=>by
  have:=r2.2 c hc
  simp only[BR,Zf,ZU] at this
  exact ct_num this.1.1.1 this.1.1.2 this.1.2
 have hs:Num p.size:=⟨by omega,by omega⟩
 have hn:Num p.next:=⟨by omega,by omega⟩
 have hX:∀ e∈p.ex,Num e.a:=fun e he=>by have:=hE e he;exact⟨by omega,by omega⟩
 have hI:∀ v∈p.vs,∀ x∈v.its,NumP x.ps∧x.ps.length<=16∧x.nm.size<=8:=fun v hv x hx=>by
  obtain⟨_,_,_,_,a5⟩:=hV v hv
  obtain⟨b1,b2⟩:=igo_eachT a5 x hx
  simp only[Ac,Zf,ZU] at b2
  exact⟨fun q hq=>part_num (jR_ b2.2 (by omega) q hq).1 (jR_ b2.2 (by omega) q hq).2,b2.1,b1⟩
 refine ⟨hs,hn,hX,fun v hv=>⟨⟨by have:=(hV v hv).1;omega,by have:=(hV v hv).2.1;omega⟩,fun x hx=>(hI v hv x hx).1,by have:=(hV v hv).2.2.2.1;omega,fun x hx=>by have:=(hI v hv x hx).2.1;omega⟩,fun c hc=>(hR c hc).1,fun c hc=>(hL c hc).1,?_⟩
 have t1:(lineL (hdW p)).length<=50:=by
  have h1:=word_lenT (hdW p)
  have:=dec_num hs
  have:=dec_num hn
  unfold lineL
  simp[hdW] at h1 ⊢
  have e4:(ByteArray.mk #[112,111,111,108]).size=4:=rfl
  omega
 have t2:(exsW p.ex).length<=p.ex.length*60:=flat_lenT fun e he=>by
  have h1:=word_lenT (exW e)
  have:=dec_num (hX e he)
  have:=(hE e he).2.2
  have e6:(ByteArray.mk #[101,120,116,101,110,116]).size=6:=rfl
  show (lineL (exW e)).length<=_
  unfold lineL
  simp[exW] at h1 ⊢
  omega
 have t3:(volsW p.vs).length<=p.vs.length*8000:=flat_lenT fun v hv=>by
  obtain⟨a1,a2,a3,a4,_⟩:=hV v hv
  have h1:=word_lenT (voW v)
  have:=dec_num (n:=v.id) ⟨by omega,by omega⟩
  have e6:(ByteArray.mk #[118,111,108,117,109,101]).size=6:=rfl
  have e1:(flagB v.fx).size=1:=by cases v.fx<;>rfl
  have i1:(itsW v.its).length<=v.its.length*1200:=flat_lenT fun x hx=>by
   obtain⟨b1,b2,b3⟩:=hI v hv x hx
   have p1:(partsW x.ps).length<=x.ps.length*60:=flat_lenT fun q hq=>by
    obtain⟨c1,c2,c3⟩:=b1 q hq
    have h1:=word_lenT (ptW q)
    have:=dec_num c1
    have:=dec_num c2
    have:=dec_num c3
    have e4:(ByteArray.mk #[112,97,114,116]).size=4:=rfl
    show (lineL (ptW q)).length<=_
    unfold lineL
    simp[ptW] at h1 ⊢
    omega
   have h1:=word_lenT [⟨#[102,105,108,101]⟩,x.nm]
   have e4:(ByteArray.mk #[102,105,108,101]).size=4:=rfl
   unfold itW lineL
   simp at h1 ⊢
   omega
  unfold volW lineL
  simp[voW] at h1 ⊢
  omega
 have t4:(ctsW refW p.rf).length<=p.rf.length*60:=flat_lenT fun c hc=>ct_lenT (by decide) (hR c hc).1 (hR c hc).2
 have t5:(ctsW lateW p.lt).length<=p.lt.length*60:=flat_lenT fun c hc=>ct_lenT (by decide) (hL c hc).1 (hL c hc).2
 unfold textW
 rw[ZE,ZE,ZE,ZE]
 have:=r1.1
 have:=r2.1
 omega
end
end Go.Proofs.YtdmeabghpchckaaGreatDoor
