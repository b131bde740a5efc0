/- A line that a writer writes. A contract of the library, laid at this program. Numbers in decimal: the model's and the program's. Owners and counts as plain data: their order, the lists that are added up, and that two lists in order with the same sums are one. A count that a writer writes. Bytes: zeros appended to a row of the call's own, rows of bytes as texts. -/
import Derived.Lib.AppendIntMem
import Derived.Test.YtigldeccfpkdmaaGreatDoorK02
import Derived.Test.YtigldeccfpkdmaaGreatDoorProg
import Derived.Shelf.Strconv.Itoa4
import Derived.Test.YtigldeccfpkdmaaGreatDoorK00
import Derived.Laws.Cover1
import Derived.Lib.AppendStr
import Derived.Lib.AppendZerosOnto
import Derived.Laws.BytesArg
namespace Go.Proofs.YtigldeccfpkdmaaGreatDoor
open Go Go.RowKit Go.BigFrame Go.Shelf
set_option maxHeartbeats 20000000
set_option maxRecDepth 100000
theorem av_ {P:Program} {ops:Array Oper} {Q:Exit->Act->World->Prop} {S:World->Prop} {id:Nat} {a:Act} {w:World} (n:Nat) (hm:P.follows .mixedOrders=true) (hn:ops.size=n)
  (h:wpAnyH P .any ops Q S n (Array.replicate n false) a w.drew):(Code.region id ops true).wp P Q a w:=by
 subst hn
 exact wp_region_held hm h
/-- A writer that holds these bytes. -/
structure Wr (B b:Nat) (l:List UInt8) (w:World):Prop where
 h:Lib.IsBuilderF 182 5 B b (Lib.byteCells l) w
theorem km_ {w w':World} {B e:Nat} {v:Value} {n:Nat} {xs:List Value} (h:w.ownsRowF B e 1 v n xs) (hb:Below w.heap.size w w'):w'.ownsRowF B e 1 v n xs:=by
 refine ⟨h.1,?_⟩
 rcases h.2 with h0 | ⟨g,cap,cur,fz,h1,h2,h3,r⟩
 ·exact .inl h0
 ·exact .inr ⟨g,cap,cur,fz,h1,h2,(hb.block g (Array.getElem?_eq_some_iff.1 h3).1).trans h3,r⟩
theorem iN_ {T e:TypeId} {B b:Nat} {p:Value} {bs:List Value} {w w':World} (h:Lib.BuilderAtF T e B b p bs w) (hb:Below w.heap.size w w'):Lib.BuilderAtF T e B b p bs w':=by
 obtain ⟨h1,v,h2,h3,h4⟩:=h
 exact ⟨h1,v,(hb.block b (Array.getElem?_eq_some_iff.1 h2).1).trans h2,km_ h3 hb,h4⟩
theorem Wr.below {B b:Nat} {l:List UInt8} {w w':World} (h:Wr B b l w) (hb:Below w.heap.size w w'):Wr B b l w':=by
 obtain ⟨h | h⟩:=h
 ·exact ⟨.inl (iN_ h hb)⟩
 ·exact ⟨.inr (iN_ h hb)⟩
/-- Words with a blank between two, and the line's end. -/
def wordL (ps:List ByteArray):List UInt8:=Lib.join (ps.map (·.data.toList)) [32]
def lineL (ps:List ByteArray):List UInt8:=wordL ps++[10]
/-- All that is no row of bytes, and not the writer, is as it was. -/
theorem bG_ {e:TypeId} {b:Option Nat} {w w':World} (hb:Below w.heap.size w w'):Lib.OthersKept e b w w':=fun k ob h _ _=>by
 rw [hb.block k (Array.getElem?_eq_some_iff.1 h).1]
 exact h
theorem a0_ (B b:Nat) (l:List UInt8) (ps:List ByteArray) (wb wo cap:Nat) (w:World) (h:Wr B b l w) (hs:∀ (j:Nat) x,ps[j]?=some x->w.cell? ⟨wb,wo+j,none⟩=some (.string x)) (hlt:wb<w.heap.size) (hcap:ps.length<=cap) (hlen:l.length+(lineL ps).length<=1000000) (hpl:ps.length<=100) (hBw:B<=w.heap.size) :
  Calls Tryz.prog 127 #[.pointer (some ⟨b,0,none⟩),.slice (some ⟨wb,wo,none⟩) ps.length cap] w fun e w'=>e=.returned (.tuple #[])∧Wr B b (l++lineL ps) w'∧Below B w w'∧Lib.OthersKept 5 (some b) w w':=by
 have hll:(lineL ps).length=(wordL ps).length+1:=by unfold lineL;simp
 go_enter Tryz.func127,Tryz.ntmps127
 go_wp2_with fail
 have hS0:(fun _:World=>True) w.drew:=trivial
 refine av_ (S:=(fun _:World=>True)) 6 (by kernel_rfl) rfl ?_
 refine tk 0 ?_
 refine tk 1 ?_
 refine tk 2 ?_
 refine tk 3 ?_
 refine oneL (i:=4) (by kernel_rfl) rfl (fun K hK=>?_)
 go_simp
 refine (Any.strings_Join jnL jnX wb wo cap ps ⟨#[32]⟩ w.drew hs hlt (by omega) hcap (by show (wordL ps).length<=_;omega)).mono ?_
 rintro e w1 ⟨rfl,hB1'⟩
 have hB1:Below w.heap.size w w1:=chain (Below.refl _ w).drew hB1'
 have h1:=h.below hB1
 have hz1:=hB1.size
 dsimp only
 refine hK.out _ _ trivial (fun hHeld=>?_)
 clear hK K
 try simp only [Act.put,lsA,lsB,lsC]
 refine oneL (i:=5) (by kernel_rfl) rfl (fun K hK=>?_)
 go_simp
 have hsz:(⟨(wordL ps).toArray⟩:ByteArray).size=(wordL ps).length:=by show (wordL ps).toArray.size=_;simp
 refine (fC_ B b (Lib.byteCells l) ⟨(wordL ps).toArray⟩ w1 h1.h (by rw [Lib.byteCells_length,hsz];omega) (by omega)).mono ?_
 rintro e w2 ⟨rfl,h2,hB2,hk2⟩
 dsimp only
 refine hK.out _ _ trivial (fun hHeld=>?_)
 clear hK K
 try simp only [Act.put,lsA,lsB,lsC]
 refine wpAnyH_done (by kernel_rfl) ?_ _
 clear hS0
 rw [Lib.strCells_toArray] at h2
 have hz2:=hB2.size
 go_wp2_with fail
 refine (hJ_ B b _ 10 w2 (.inr h2) (by rw [List.length_append,Lib.byteCells_length,Lib.byteCells_length];omega) (by omega)).mono ?_
 rintro e w3 ⟨rfl,h3,hB3,hk3⟩
 go_wp2
 go_end0
 refine ⟨rfl,⟨.inr ?_⟩,((hB1.mono hBw).trans hB2).trans hB3,((bG_ hB1).trans hk2).trans hk3⟩
 have e:Lib.byteCells (l++lineL ps)=Lib.byteCells l++Lib.byteCells (wordL ps)++[.int .u8 10]:=by unfold Lib.byteCells lineL;simp
 rw [e]
 exact h3
end Go.Proofs.YtigldeccfpkdmaaGreatDoor
namespace Go.Proofs.YtigldeccfpkdmaaGreatDoor
open Go.Shelf Go.RowKit Go.Lib
set_option maxHeartbeats 20000000
set_option maxRecDepth 100000
def m4_:Go.Shelf.Ren:=⟨fun | 173=>131 | 246=>190 | 283=>218 | 284=>219 | 285=>220 | 286=>221 | 129=>247 | 317=>246 | 318=>248 | 319=>249 | 320=>250 | 337=>275 | 338=>276 | n=>n,fun | 2=>2 | 3=>3 | 9=>9 | 4=>4 | 171=>273 | 0=>0 | 53=>274 | 37=>173 | 5=>5 | 173=>277 | 212=>301 | 51=>98 | 20=>20 | 213=>302 | 46=>172 | 232=>336 | 233=>337 | n=>n,fun | 17=>2 | 18=>7 | 19=>8 | n=>n⟩
theorem fmtL:LaysM.n173 Tryz.prog m4_ where
 mixed:=by kernel_rfl
 f129:=Tryz.func247.trans (congrArg some (by kernel_rfl))
 f173:=Tryz.func131.trans (congrArg some (by kernel_rfl))
 f246:=Tryz.func190.trans (congrArg some (by kernel_rfl))
 f283:=Tryz.func218.trans (congrArg some (by kernel_rfl))
 f284:=Tryz.func219.trans (congrArg some (by kernel_rfl))
 f285:=Tryz.func220.trans (congrArg some (by kernel_rfl))
 f286:=Tryz.func221.trans (congrArg some (by kernel_rfl))
 f317:=Tryz.func246.trans (congrArg some (by kernel_rfl))
 f318:=Tryz.func248.trans (congrArg some (by kernel_rfl))
 f319:=Tryz.func249.trans (congrArg some (by kernel_rfl))
 f320:=Tryz.func250.trans (congrArg some (by kernel_rfl))
 f337:=Tryz.func275.trans (congrArg some (by kernel_rfl))
 f338:=Tryz.func276.trans (congrArg some (by kernel_rfl))
 t0:=Tryz.underlying0
 a0:=Tryz.isAgg0
 z0:=Tryz.sizeOf0
 v0:=Tryz.zeroValue0
 t2:=Tryz.underlying2
 a2:=Tryz.isAgg2
 z2:=Tryz.sizeOf2
 v2:=Tryz.zeroValue2
 t3:=Tryz.underlying3
 a3:=Tryz.isAgg3
 z3:=Tryz.sizeOf3
 v3:=Tryz.zeroValue3
 t4:=Tryz.underlying4
 a4:=Tryz.isAgg4
 z4:=Tryz.sizeOf4
 v4:=Tryz.zeroValue4
 t5:=Tryz.underlying5
 a5:=Tryz.isAgg5
 z5:=Tryz.sizeOf5
 v5:=Tryz.zeroValue5
 t9:=Tryz.underlying9
 a9:=Tryz.isAgg9
 z9:=Tryz.sizeOf9
 v9:=Tryz.zeroValue9
 t20:=Tryz.underlying20
 a20:=Tryz.isAgg20
 z20:=Tryz.sizeOf20
 v20:=Tryz.zeroValue20
 t37:=Tryz.underlying173
 a37:=Tryz.isAgg173
 z37:=Tryz.sizeOf173
 v37:=Tryz.zeroValue173
 t46:=Tryz.underlying172
 a46:=Tryz.isAgg172
 z46:=Tryz.sizeOf172
 v46:=Tryz.zeroValue172
 t51:=Tryz.underlying98
 a51:=Tryz.isAgg98
 z51:=Tryz.sizeOf98
 v51:=Tryz.zeroValue98
 t53:=Tryz.underlying274
 a53:=Tryz.isAgg274
 z53:=Tryz.sizeOf274
 v53:=Tryz.zeroValue274
 t171:=Tryz.underlying273
 a171:=Tryz.isAgg273
 z171:=Tryz.sizeOf273
 v171:=Tryz.zeroValue273
 t173:=Tryz.underlying277
 a173:=Tryz.isAgg277
 z173:=Tryz.sizeOf277
 v173:=Tryz.zeroValue277
 t212:=Tryz.underlying301
 a212:=Tryz.isAgg301
 z212:=Tryz.sizeOf301
 v212:=Tryz.zeroValue301
 t213:=Tryz.underlying302
 a213:=Tryz.isAgg302
 z213:=Tryz.sizeOf302
 t232:=Tryz.underlying336
 a232:=Tryz.isAgg336
 z232:=Tryz.sizeOf336
 v232:=Tryz.zeroValue336
 t233:=Tryz.underlying337
 a233:=Tryz.isAgg337
 z233:=Tryz.sizeOf337
 v233:=Tryz.zeroValue337
 g17:=by kernel_rfl
 g18:=by kernel_rfl
 g19:=by kernel_rfl
 i0:=by kernel_rfl
 i2:=by kernel_rfl
 i3:=by kernel_rfl
 i4:=by kernel_rfl
 i5:=by kernel_rfl
 i9:=by kernel_rfl
 i20:=by kernel_rfl
 i37:=by kernel_rfl
 i46:=by kernel_rfl
 i51:=by kernel_rfl
 i53:=by kernel_rfl
 i171:=by kernel_rfl
 i173:=by kernel_rfl
 i212:=by kernel_rfl
 i232:=by kernel_rfl
 i233:=by kernel_rfl
 m17:=by kernel_rfl
 m18:=by kernel_rfl
 m19:=by kernel_rfl
end Go.Proofs.YtigldeccfpkdmaaGreatDoor
namespace Go.Proofs.YtigldeccfpkdmaaGreatDoor
open Go Go.RowKit Go.BigFrame
set_option maxHeartbeats 20000000
set_option maxRecDepth 100000
theorem hK_:∀ (m k:Nat),k<10 ^ (m+1)->(Lib.decDigits k).length<=m+1
 |0,k,h=>by rw [Lib.decDigits,dif_pos (by simpa using h)];simp
 |m+1,k,h=>by
  rw [Lib.decDigits]
  split
  ·simp
  ·have:=hK_ m (k / 10) (by rw [Nat.pow_succ] at h;omega)
   simp
   omega
theorem cq_ {n:Int} (h0:-1000000000000<n) (h1:n<1000000000000):(decB n).size<=13:=by
 show (Lib.itoa n).toArray.size<=13
 rw [List.size_toArray]
 unfold Lib.itoa
 split
 ·have:=hK_ 11 n.natAbs (by omega)
  simp
  omega
 ·have:=hK_ 11 n.toNat (by omega)
  omega
theorem m5_ {k:Nat}:decB k=ddGo k .empty:=by
 unfold decB ddGo Lib.itoa
 rw [if_neg (by omega)]
 refine bZ_ ?_
 simp
theorem m6_ {k:Nat} (h:0<k):decB (-(k:Int))=ByteArray.mk #[45]++decB k:=by
 unfold decB Lib.itoa
 rw [if_pos (by omega),if_neg (by omega)]
 refine bZ_ ?_
 simp [ByteArray.data_append]
theorem cZ_ (k:Nat) (w:World) (h2:k<1000000000000) :
  Calls Tryz.prog 122 #[.int .i64 k] w fun e w'=>e=.returned (.string (decB k))∧Below w.heap.size w w':=by
 have hcv:∀ (u:World) (x:Int),(convert 173 9 (.slice (some ⟨u.heap.size,0,none⟩) 1 1)).run Tryz.prog (u.alloc (.cells #[.int .u8 x] 5))=.ok (.string (strOfNums [x])) (u.alloc (.cells #[.int .u8 x] 5)):=fun u x=>
  run_convert_bytes_arg (P:=Tryz.prog) _ 173 5 Tryz.underlying173 Tryz.underlying5 u.heap.size 0 1 1 [x] rfl (fun i hi=>(by obtain rfl:i=0:=(by omega);simp)) 9 Tryz.underlying9
 obtain ⟨R,hR⟩:∃ R,Hid (decB k=R):=⟨_,rfl⟩
 rw [hR.out]
 go_enter Tryz.func122,Tryz.ntmps122
 go_wp2_with fail
 go_loopw [0,3] (fun kk out wr=>∃ (j:Nat) (o:ByteArray),kk=.int .i64 j∧out=.string o∧j<1000000000000∧Hid (∃ m,j<10 ^ m∧o.size+m<=13)∧Hid (R=ddGo j o)∧Below w.heap.size w wr) (fun kk _ _=>(intOf kk).toNat)
 case atStart=>exact ⟨k,.empty,rfl,rfl,h2,⟨12,by omega,by decide⟩,by show _=_;rw [<-hR.out];exact m5_,Below.refl _ _⟩
 case round=>
  obtain ⟨j,o,rfl,rfl,hj,hm,hI,hB⟩:=hrel
  have ho:o.size<=13:=by obtain ⟨m,_,h⟩:=hm.out;omega
  by_cases hlt:10<=j
  ·have hss:¬ 9223372036854775807<(strOfNums [48+(j:Int) % 10]).size+o.size:=by rw [strOfNums_size];simp;omega
   have hge:(10:Int)<=j:=by omega
   go_wp2
   go_roundw
   case rel=>
    refine ⟨j / 10,_,by go_num,rfl,by omega,?_,?_,hB.alloc hB.size _⟩
    ·obtain ⟨m,h3,h4⟩:=hm.out
     cases m with
     |zero=>simp at h3;omega
     |succ m=>exact ⟨m,by rw [Nat.pow_succ] at h3;omega,by rw [cp_,strOfNums_size];simp;omega⟩
    ·show _=_
     rw [hI.out,l2_ o hlt]
   case measure=>simp [intOf];omega
  ·have hss:¬ 9223372036854775807<(strOfNums [48+(j:Int)]).size+o.size:=by rw [strOfNums_size];simp;omega
   have hge:¬ (10:Int)<=j:=by omega
   go_wp2
   go_returns
   go_light
   refine ⟨?_,hB.alloc hB.size _⟩
   rw [hI.out,l3_ o (by omega)]
   rfl
theorem aH_ (n:Int) (w:World) (h1:-1000000000000<n) (h2:n<1000000000000) :
  Calls Tryz.prog 122 #[.int .i64 n] w fun e w'=>e=.returned (.string (decB n))∧Below w.heap.size w w':=by
 by_cases h:n<0
 ·obtain ⟨k,rfl⟩:∃ k:Nat,n=-(k:Int):=⟨n.natAbs,by omega⟩
  have hk:0<k:=by omega
  have hR:Hid (decB (-(k:Int))=ByteArray.mk #[45]++decB k):=m6_ hk
  generalize decB (-(k:Int))=R at *
  have hsz:=cq_ (n:=k) (by omega) (by omega)
  have hss:¬ 9223372036854775807<(ByteArray.mk #[45]).size+(decB k).size:=by show ¬ _<1+_;omega
  have hneg:-(-(k:Int))=k:=by omega
  go_enter Tryz.func122,Tryz.ntmps122
  go_wp2_with fail
  refine (cZ_ k w (by omega)).mono ?_
  rintro e w1 ⟨rfl,hB1⟩
  generalize decB (k:Int)=D at *
  go_wp2
  go_returns
  exact ⟨by rw [hR.out];rfl,hB1⟩
 ·obtain ⟨k,rfl⟩:∃ k:Nat,n=(k:Int):=⟨n.toNat,by omega⟩
  exact cZ_ k w (by omega)
/-- The table that FormatInt reads. -/
def TabP (w:World):Prop:=Lib.TabIs Tryz.prog w "internal/strconv.uint64pow10" .u64 Lib.pow10Tab
theorem ak_ (n:Int) (w:World) (h0:-9223372036854775808<=n) (h1:n<=9223372036854775807) (ht:TabP w) :
  Calls Tryz.prog 61 #[.int .i64 n] w fun e w'=>e=.returned (.string (decB n))∧Below w.heap.size w w':=by
 go_enter Tryz.func61,Tryz.ntmps61
 go_wp2_with fail
 refine (Any.strconv_FormatInt_10 fmtL n h0 h1 w ht).mono ?_
 rintro e w1 ⟨rfl,k,os,rfl⟩
 have hB:=Lib.below_grow w.heap.size w (Nat.le_refl _) k os
 generalize Sort.grow (w.drewN k) os=W at *
 go_wp2
 go_returns
 exact ⟨rfl,hB⟩
end Go.Proofs.YtigldeccfpkdmaaGreatDoor
namespace Go.Proofs.YtigldeccfpkdmaaGreatDoor
open Go.RowKit
set_option maxHeartbeats 20000000
set_option maxRecDepth 100000
/-- An owner: Addr, Vol, File. -/
structure Ow where
 a:Int
 v:Int
 f:ByteArray
/-- A count: Owner, N. -/
structure Ct where
 o:Ow
 n:Int
def Ow.vs (o:Ow):Array Value:=#[.int .i64 o.a,.int .i64 o.v,.string o.f]
/-- The cells of a count. -/
def Ct.cs (c:Ct):List Value:=[.int .i64 c.o.a,.int .i64 c.o.v,.string c.o.f,.int .i64 c.n]
abbrev CtsAt:=SlAt Ct.cs 4
theorem az_ {w:World} {a:Option Addr} {n:Nat} {l:List Ct} (h:CtsAt w a n l) {k:Nat} (hk:k<n) :
  ∃ b o p,a=some ⟨b,o,none⟩∧l[k]?=some p∧w.cell? ⟨b,o+k*4,none⟩=some (.int .i64 p.o.a)∧w.cell? ⟨b,o+k*4+1,none⟩=some (.int .i64 p.o.v)∧w.cell? ⟨b,o+k*4+2,none⟩=some (.string p.o.f)∧w.cell? ⟨b,o+k*4+3,none⟩=some (.int .i64 p.n):=by
 have hl:k<l.length:=by rw [h.len];exact hk
 have hx:l[k]?=some l[k]:=by simp [hl]
 obtain ⟨b,o,ha,hc⟩:=h.cell k _ hx
 exact ⟨b,o,l[k],ha,hx,hc 0 _ rfl,hc 1 _ rfl,hc 2 _ rfl,hc 3 _ rfl⟩
/-! ### The order of texts -/
abbrev bl:=Op.bytesLess
theorem bV_:∀ x:List UInt8,bl x x=false
 |[]=>rfl
 |a::x=>by simp [bl,Op.bytesLess];exact bV_ x
theorem dT_:∀ {x y:List UInt8},bl x y=false->x≠y->bl y x=true
 |[],[],_,h=>absurd rfl h
 |[],b::y,h,_=>by simp [bl,Op.bytesLess] at h
 |a::x,[],_,_=>rfl
 |a::x,b::y,h,hne=>by
  simp only [bl,Op.bytesLess,Bool.or_eq_false_iff,Bool.and_eq_false_iff,decide_eq_false_iff_not] at h
  obtain ⟨h1,h2⟩:=h
  simp only [bl,Op.bytesLess,Bool.or_eq_true,Bool.and_eq_true,decide_eq_true_eq,beq_iff_eq]
  by_cases hab:a=b
  ·subst hab
   right
   refine ⟨rfl,dT_ (h2.resolve_left (by simp)) (fun e=>hne (by rw [e]))⟩
  ·left
   have h1':b.toNat<=a.toNat:=by simpa [UInt8.lt_iff_toNat_lt] using h1
   have:a.toNat≠b.toNat:=fun e=>hab (UInt8.toNat_inj.1 e)
   rw [UInt8.lt_iff_toNat_lt];omega
theorem dU_:∀ {x y:List UInt8},bl x y=true->bl y x=false
 |[],[],h=>by simp [bl,Op.bytesLess] at h
 |[],b::y,_=>rfl
 |a::x,[],h=>by simp [bl,Op.bytesLess] at h
 |a::x,b::y,h=>by
  simp only [bl,Op.bytesLess,Bool.or_eq_true,Bool.and_eq_true,decide_eq_true_eq,beq_iff_eq] at h
  simp only [bl,Op.bytesLess,Bool.or_eq_false_iff,Bool.and_eq_false_iff,decide_eq_false_iff_not,beq_eq_false_iff_ne]
  rcases h with h | ⟨rfl,h⟩
  ·have h':=UInt8.lt_iff_toNat_lt.1 h
   refine ⟨fun k=>by have:=UInt8.lt_iff_toNat_lt.1 k;omega,.inl fun e=>by subst e;omega⟩
  ·exact ⟨fun k=>by have:=UInt8.lt_iff_toNat_lt.1 k;omega,.inr (dU_ h)⟩
theorem cr_:∀ {x y z:List UInt8},bl x y=true->bl y z=true->bl x z=true
 |[],[],_,h,_=>by simp [bl,Op.bytesLess] at h
 |[],b::y,[],_,h=>by simp [bl,Op.bytesLess] at h
 |[],b::y,c::z,_,_=>rfl
 |a::x,[],_,h,_=>by simp [bl,Op.bytesLess] at h
 |a::x,b::y,[],_,h=>by simp [bl,Op.bytesLess] at h
 |a::x,b::y,c::z,h1,h2=>by
  simp only [bl,Op.bytesLess,Bool.or_eq_true,Bool.and_eq_true,decide_eq_true_eq,beq_iff_eq,UInt8.lt_iff_toNat_lt] at *
  rcases h1 with h1 | ⟨rfl,h1⟩
  ·rcases h2 with h2 | ⟨rfl,h2⟩
   ·left;omega
   ·left;exact h1
  ·rcases h2 with h2 | ⟨rfl,h2⟩
   ·left;exact h2
   ·right;exact ⟨rfl,cr_ h1 h2⟩
theorem m7_ {x y:ByteArray} (h:x.toList=y.toList):x=y:=by
 rw [ByteArray.toList_eq,ByteArray.toList_eq] at h
 cases x;cases y
 congr 1
 exact Array.toList_inj.1 h
/-! ### The order of owners -/
def owEq (a b:Ow):Bool:=a.a==b.a&&a.v==b.v&&a.f.toList==b.f.toList
theorem aC_ {a b:Ow}:owEq a b=true↔a=b:=by
 constructor
 ·intro h
  simp [owEq] at h
  obtain ⟨⟨h1,h2⟩,h3⟩:=h
  cases a;cases b
  simp at *
  exact ⟨h1,h2,m7_ h3⟩
 ·rintro rfl;simp [owEq]
def owLt (a b:Ow):Bool:=if a.a≠b.a then decide (a.a<b.a) else if a.v≠b.v then decide (a.v<b.v) else bl a.f.toList b.f.toList
theorem eR_ (a:Ow):owLt a a=false:=by simp [owLt,bV_]
theorem b1_ {a b:Ow} (h:owLt a b=false) (hne:a≠b):owLt b a=true:=by
 by_cases h1:a.a=b.a
 ·by_cases h2:a.v=b.v
  ·have h3:a.f.toList≠b.f.toList:=fun e=>hne (aC_.1 (by simp [owEq,h1,h2,e]))
   simp only [owLt,h1,h2,ne_eq,not_true,if_false] at h ⊢
   exact dT_ h h3
  ·simp only [owLt,h1,ne_eq,not_true,if_false,h2,not_false_eq_true,if_true,decide_eq_false_iff_not] at h
   simp only [owLt,h1,ne_eq,not_true,if_false,if_pos (Ne.symm h2),decide_eq_true_eq];omega
 ·simp only [owLt,ne_eq,h1,not_false_eq_true,if_true,decide_eq_false_iff_not] at h
  simp only [owLt,ne_eq,if_pos (Ne.symm h1),decide_eq_true_eq];omega
theorem kn_ {a b:Ow} (h:owLt a b=true):owLt b a=false:=by
 by_cases h1:a.a=b.a
 ·by_cases h2:a.v=b.v
  ·simp only [owLt,h1,h2,ne_eq,not_true,if_false] at h ⊢
   exact dU_ h
  ·simp only [owLt,h1,ne_eq,not_true,if_false,h2,not_false_eq_true,if_true,decide_eq_true_eq] at h
   simp only [owLt,h1,ne_eq,not_true,if_false,if_pos (Ne.symm h2),decide_eq_false_iff_not];omega
 ·simp only [owLt,ne_eq,h1,not_false_eq_true,if_true,decide_eq_true_eq] at h
  simp only [owLt,ne_eq,if_pos (Ne.symm h1),decide_eq_false_iff_not];omega
theorem iO_ {a b:Ow}:owLt a b=true↔a.a<b.a∨(a.a=b.a∧(a.v<b.v∨(a.v=b.v∧bl a.f.toList b.f.toList=true))):=by
 unfold owLt
 split
 ·rename_i h;simp;omega
 ·rename_i h
  split
  ·rename_i k;simp;omega
  ·rename_i k
   simp at h k
   constructor
   ·intro e;exact .inr ⟨h,.inr ⟨k,e⟩⟩
   ·rintro (e | ⟨_,e | ⟨_,e⟩⟩)
    ·omega
    ·omega
    ·exact e
theorem bs_ {a b c:Ow} (h:owLt a b=true) (k:owLt b c=true):owLt a c=true:=by
 rw [iO_] at *
 rcases h with h | ⟨h1,h | ⟨h2,h⟩⟩<;>rcases k with k | ⟨k1,k | ⟨k2,k⟩⟩
 case inr.inr.inr.inr=>exact .inr ⟨by omega,.inr ⟨by omega,cr_ h k⟩⟩
 case inl.inl=>exact .inl (by omega)
 case inl.inr.inl=>exact .inl (by omega)
 case inl.inr.inr=>exact .inl (by omega)
 case inr.inl.inl=>exact .inl (by omega)
 case inr.inr.inl=>exact .inl (by omega)
 case inr.inl.inr.inl=>exact .inr ⟨by omega,.inl (by omega)⟩
 case inr.inl.inr.inr=>exact .inr ⟨by omega,.inl (by omega)⟩
 case inr.inr.inr.inl=>exact .inr ⟨by omega,.inl (by omega)⟩
/-! ### cmp.Compare, cmp.Or -/
def cmpI (x y:Int):Int:=if x<y then -1 else if y<x then 1 else 0
def cmpS (x y:ByteArray):Int:=if bl x.toList y.toList=true then -1 else if x.toList=y.toList then 0 else 1
def or3 (x y z:Int):Int:=if x≠0 then x else if y≠0 then y else z
def ordO (a b:Ow):Int:=or3 (cmpI a.a b.a) (cmpI a.v b.v) (cmpS a.f b.f)
theorem hL_ (a b:Ow):decide (ordO a b<0)=owLt a b:=by
 rw [Bool.eq_iff_iff,iO_,decide_eq_true_eq]
 unfold ordO or3 cmpI cmpS
 rcases Int.lt_trichotomy a.a b.a with h | h | h
 ·rw [if_pos h,if_pos (by decide)];constructor
  ·intro _;exact .inl h
  ·intro _;decide
 ·rw [h,if_neg (Int.lt_irrefl _),if_neg (Int.lt_irrefl _),if_neg (by decide)]
  rcases Int.lt_trichotomy a.v b.v with k | k | k
  ·rw [if_pos k,if_pos (by decide)];constructor
   ·intro _;exact .inr ⟨rfl,.inl k⟩
   ·intro _;decide
  ·rw [k,if_neg (Int.lt_irrefl _),if_neg (Int.lt_irrefl _),if_neg (by decide)]
   cases h5:bl a.f.toList b.f.toList
   ·constructor
    ·intro e
     rw [if_neg (by decide)] at e
     split at e<;>omega
    ·rintro (e | ⟨_,e | ⟨_,e⟩⟩)
     ·omega
     ·omega
     ·cases e
   ·constructor
    ·intro _;exact .inr ⟨rfl,.inr ⟨rfl,rfl⟩⟩
    ·intro _;rw [if_pos rfl];decide
  ·rw [if_neg (show ¬ a.v<b.v by omega),if_pos k,if_pos (by decide)];constructor
   ·intro e;omega
   ·rintro (e | ⟨_,e | ⟨_,e⟩⟩)<;>omega
 ·rw [if_neg (show ¬ a.a<b.a by omega),if_pos h,if_pos (by decide)];constructor
  ·intro e;omega
  ·rintro (e | ⟨e,_⟩)<;>omega
end Go.Proofs.YtigldeccfpkdmaaGreatDoor
namespace Go.Proofs.YtigldeccfpkdmaaGreatDoor
open Go Go.RowKit Go.BigFrame Go.Shelf
set_option maxHeartbeats 20000000
set_option maxRecDepth 100000
theorem aK_ {w w':World} {B:Nat} (h:TabP w) (hb:Below B w w') (hg:9<=B):TabP w':=by
 unfold TabP Lib.TabIs World.var? at h ⊢
 have hgl:Tryz.prog.globalNamed "internal/strconv.uint64pow10"=some 2:=by kernel_rfl
 rw [hgl] at h ⊢
 simp only [Option.bind_some] at h ⊢
 rw [hb.block _ (by omega)]
 exact h
theorem sl5 {w:World} {b:Nat} {t:TypeId} {ps:List ByteArray} (h:Blk w b (ps.map Value.string).toArray t):∀ (j:Nat) x,ps[j]?=some x->w.cell? ⟨b,0+j,none⟩=some (.string x):=fun j x hx=>by
 rw [Nat.zero_add,h.cell]
 simp [hx]
theorem Blk.ok {w w':World} {k b:Nat} {c:Array Value} {t:TypeId} (h:Blk w k c t) (hk:Lib.OthersKept 5 (some b) w w') (hb:k≠b) (ht:t≠5):Blk w' k c t:=hk k _ h (by simpa using hb) (fun c' fz e=>by cases e;exact ht rfl)
theorem Wr.lt {B b:Nat} {l:List UInt8} {w:World} (h:Wr B b l w):b<w.heap.size:=by
 obtain ⟨⟨_,v,h2,_⟩ | ⟨_,v,h2,_⟩⟩:=h
 ·exact (Array.getElem?_eq_some_iff.1 h2).1
 ·exact (Array.getElem?_eq_some_iff.1 h2).1
/-- What a count's line says. -/
def ctL (word:ByteArray) (c:Ct):List ByteArray:=[word,decB c.o.a,decB c.o.v,c.o.f,decB c.n]
/-- Numbers as small as those of right pools. -/
def Num (n:Int):Prop:=-1000000000000<n∧n<1000000000000
theorem dV_ (B b:Nat) (l:List UInt8) (word:ByteArray) (c:Ct) (w:World) (h:Wr B b l w) (ht:TabP w) (hg:9<=B) (hBw:B<=w.heap.size) (n1:Num c.o.a) (n2:Num c.o.v) (n3:Num c.n) (hlen:l.length+(lineL (ctL word c)).length<=1000000) :
  Calls Tryz.prog 129 #[.pointer (some ⟨b,0,none⟩),.string word,.agg #[.int .i64 c.o.a,.int .i64 c.o.v,.string c.o.f,.int .i64 c.n]] w fun e w'=>e=.returned (.tuple #[])∧Wr B b (l++lineL (ctL word c)) w'∧Below B w w'∧Lib.OthersKept 5 (some b) w w':=by
 obtain ⟨a1,a2⟩:=n1
 obtain ⟨b1,b2⟩:=n2
 obtain ⟨c1,c2⟩:=n3
 obtain ⟨da,hda⟩:∃ x,decB c.o.a=x:=⟨_,rfl⟩
 obtain ⟨dv,hdv⟩:∃ x,decB c.o.v=x:=⟨_,rfl⟩
 obtain ⟨dn,hdn⟩:∃ x,decB c.n=x:=⟨_,rfl⟩
 have hct:ctL word c=[word,da,dv,c.o.f,dn]:=by unfold ctL;rw [hda,hdv,hdn]
 rw [hct] at hlen ⊢
 have C:=Blk.new w #[.int .i64 c.o.a,.int .i64 c.o.v,.string c.o.f,.int .i64 c.n] 134
 have hB0:Below w.heap.size w (w.alloc (.cells #[.int .i64 c.o.a,.int .i64 c.o.v,.string c.o.f,.int .i64 c.n] 134)):=(Below.refl _ _).alloc (Nat.le_refl _) _
 go_enter Tryz.func129,Tryz.ntmps129
 go_wp2_with fail
 generalize w.alloc (.cells #[.int .i64 c.o.a,.int .i64 c.o.v,.string c.o.f,.int .i64 c.n] 134)=W at *
 have hB0d:Below w.heap.size w W.drew:=hB0.drew
 have hSB:∀ u:World,Below W.heap.size W u->u.cell? ⟨w.heap.size,0,none⟩=some (.int .i64 c.o.a)∧u.cell? ⟨w.heap.size,1,none⟩=some (.int .i64 c.o.v)∧u.cell? ⟨w.heap.size,2,none⟩=some (.string c.o.f)∧u.cell? ⟨w.heap.size,3,none⟩=some (.int .i64 c.n):=fun u hu=>⟨(C.below hu).cell 0,(C.below hu).cell 1,(C.below hu).cell 2,(C.below hu).cell 3⟩
 have hS0:(fun u:World=>u.cell? ⟨w.heap.size,0,none⟩=some (.int .i64 c.o.a)∧u.cell? ⟨w.heap.size,1,none⟩=some (.int .i64 c.o.v)∧u.cell? ⟨w.heap.size,2,none⟩=some (.string c.o.f)∧u.cell? ⟨w.heap.size,3,none⟩=some (.int .i64 c.n)) W.drew:=(hSB _ (Below.refl _ W).drew)
 refine av_ (S:=(fun u:World=>u.cell? ⟨w.heap.size,0,none⟩=some (.int .i64 c.o.a)∧u.cell? ⟨w.heap.size,1,none⟩=some (.int .i64 c.o.v)∧u.cell? ⟨w.heap.size,2,none⟩=some (.string c.o.f)∧u.cell? ⟨w.heap.size,3,none⟩=some (.int .i64 c.n))) 18 (by kernel_rfl) rfl ?_
 refine tk 0 ?_ (hy:=by intro u hu;obtain ⟨u0,u1,u2,u3⟩:=hu;go_simp<;>with_reducible rfl)
 refine tk 1 ?_ (hy:=by intro u hu;obtain ⟨u0,u1,u2,u3⟩:=hu;go_simp<;>with_reducible rfl)
 refine tk 2 ?_ (hy:=by intro u hu;obtain ⟨u0,u1,u2,u3⟩:=hu;go_simp<;>with_reducible rfl)
 refine tk 3 ?_ (hy:=by intro u hu;obtain ⟨u0,u1,u2,u3⟩:=hu;go_simp<;>with_reducible rfl)
 refine tk 4 ?_ (hy:=by intro u hu;obtain ⟨u0,u1,u2,u3⟩:=hu;go_simp<;>with_reducible rfl)
 refine tk 6 ?_ (hy:=by intro u hu;obtain ⟨u0,u1,u2,u3⟩:=hu;go_simp<;>with_reducible rfl)
 refine tk 7 ?_ (hy:=by intro u hu;obtain ⟨u0,u1,u2,u3⟩:=hu;go_simp<;>with_reducible rfl)
 refine tk 8 ?_ (hy:=by intro u hu;obtain ⟨u0,u1,u2,u3⟩:=hu;go_simp<;>with_reducible rfl)
 refine tk 10 ?_ (hy:=by intro u hu;obtain ⟨u0,u1,u2,u3⟩:=hu;go_simp<;>with_reducible rfl)
 refine tk 11 ?_ (hy:=by intro u hu;obtain ⟨u0,u1,u2,u3⟩:=hu;go_simp<;>with_reducible rfl)
 refine tk 12 ?_ (hy:=by intro u hu;obtain ⟨u0,u1,u2,u3⟩:=hu;go_simp<;>with_reducible rfl)
 refine tk 13 ?_ (hy:=by intro u hu;obtain ⟨u0,u1,u2,u3⟩:=hu;go_simp<;>with_reducible rfl)
 refine tk 14 ?_ (hy:=by intro u hu;obtain ⟨u0,u1,u2,u3⟩:=hu;go_simp<;>with_reducible rfl)
 refine oneL (i:=5) (by kernel_rfl) rfl (fun K hK=>?_)
 go_simp
 refine (ak_ c.o.a W.drew (by omega) (by omega) (aK_ ht (hB0d.mono hBw) hg)).mono ?_
 rintro e w1 ⟨rfl,hB1'⟩
 rw [hda]
 have hB1:Below W.heap.size W w1:=chain (Below.refl _ W).drew hB1'
 have hC1:=chain hB0 hB1
 dsimp only
 refine hK.out _ _ (hSB _ hB1) (fun hHeld=>?_)
 clear hK K
 try simp only [Act.put,lsA,lsB,lsC]
 refine oneL (i:=9) (by kernel_rfl) rfl (fun K hK=>?_)
 go_simp
 refine (ak_ c.o.v w1 (by omega) (by omega) (aK_ ht (hC1.mono hBw) hg)).mono ?_
 rintro e w2 ⟨rfl,hB2'⟩
 rw [hdv]
 have hB2:=chain hB1 hB2'
 have hC2:=chain hB0 hB2
 dsimp only
 refine hK.out _ _ (hSB _ hB2) (fun hHeld=>?_)
 clear hK K
 try simp only [Act.put,lsA,lsB,lsC]
 refine oneL (i:=15) (by kernel_rfl) rfl (fun K hK=>?_)
 go_simp
 refine (ak_ c.n w2 (by omega) (by omega) (aK_ ht (hC2.mono hBw) hg)).mono ?_
 rintro e w3 ⟨rfl,hB3'⟩
 rw [hdn]
 have hB3:=chain hB2 hB3'
 have hC3:=chain hB0 hB3
 dsimp only
 refine hK.out _ _ (hSB _ hB3) (fun hHeld=>?_)
 clear hK K
 try simp only [Act.put,lsA,lsB,lsC]
 refine oneL (i:=16) (by kernel_rfl) rfl (fun K hK=>?_)
 go_simp
 have hA4:Below w3.heap.size w3 (w3.alloc (.cells #[.string word,.string da,.string dv,.string c.o.f,.string dn] 9)):=(Below.refl _ _).alloc (Nat.le_refl _) _
 have X4:=Blk.new w3 #[.string word,.string da,.string dv,.string c.o.f,.string dn] 9
 have hB4:=chain hB3 hA4
 have hC4:=chain hB0 hB4
 have hz4:=hC4.size
 have hz3:=X4.lt
 refine hK.out _ _ (hSB _ hB4) (fun hHeld=>?_)
 clear hK K
 try simp only [Act.put,lsA,lsB,lsC]
 generalize w3.alloc (.cells #[.string word,.string da,.string dv,.string c.o.f,.string dn] 9)=w4 at *
 refine oneL (i:=17) (by kernel_rfl) rfl (fun K hK=>?_)
 go_simp
 refine (a0_ B b l [word,da,dv,c.o.f,dn] w3.heap.size 0 5 w4 (h.below hC4) (sl5 (ps:=[word,da,dv,c.o.f,dn]) X4) hz3 (by simp) hlen (by simp) (by omega)).mono ?_
 rintro e w5 ⟨rfl,h5,hB5,hk5⟩
 dsimp only
 have C5:=(C.below hB4).ok hk5 (by have:=h.lt;omega) (by decide)
 refine hK.out _ _ ⟨C5.cell 0,C5.cell 1,C5.cell 2,C5.cell 3⟩ (fun hHeld=>?_)
 clear hK K
 try simp only [Act.put,lsA,lsB,lsC]
 refine wpAnyH_done (by kernel_rfl) ?_ _
 go_wp2
 go_end0
 exact ⟨rfl,h5,(hC4.mono hBw).trans hB5,(bG_ hC4).trans hk5⟩
end Go.Proofs.YtigldeccfpkdmaaGreatDoor
namespace Go.Proofs.YtigldeccfpkdmaaGreatDoor
open Go.RowKit Go.Lib
set_option maxHeartbeats 20000000
set_option maxRecDepth 100000
/-- So many zeros. -/
def zs (k:Nat):ByteArray:=⟨(List.replicate k (0:UInt8)).toArray⟩
theorem bC_ (k:Nat):(zs k).size=k:=by simp [zs,ByteArray.size]
theorem iP_ (k:Nat):(strCells (zs k)).toArray=Builtin.zeroCells #[Value.int .u8 0] k:=by
 apply Array.ext'
 apply List.ext_getElem?
 intro j
 by_cases h:j<k
 ·simp [strCells,zs,Builtin.zeroCells,h]
  rw [Nat.mod_one];rfl
 ·simp [strCells,zs,Builtin.zeroCells,h]
/-- append(s, make([]byte, k)...) does what append of k zero bytes as a text does. -/
theorem hM_ {P:Program} (w:World) (t tn u ty e:TypeId) (i:TypeInfo) (kn kq:IntKind) (ht:P.underlying t=some (.slice e)) (htn:P.underlying tn=some (.int kn)) (hu:P.underlying u=some .string) (hi:P.info? e=some i) (hz:i.zero=some (.int .u8 0)) (hsize:i.size=1) (hby:i.bytes=1)
  (base:Option Addr) (sLen sCap k:Nat) (hk:0<k) (hb:sLen+k<=140737488355328) :
  (Builtin.append_ #[t,tn] ty #[.slice base sLen sCap,.int kq k]).run P w=(Builtin.append_ #[t,u] ty #[.slice base sLen sCap,.string (zs k)]).run P w:=by
 have hw:IntKind.i64.wrap (k:Int)=k:=by rw [IntKind.wrap_i64];omega
 have hk0:k≠0:=by omega
 have hneg:¬ ((k:Int)<0):=by omega
 have h48i:¬ (281474976710656<(k:Int)):=by omega
 have h63':¬ (9223372036854775807<((sLen:Int)+(k:Int))):=by omega
 have hf:=fun W=>run_firstCells_string (P:=P) W 1 (zs k)
 rw [bC_,iP_] at hf
 by_cases hn:sLen+k<=sCap
 ·simp [Builtin.append_,run_underlying ht,run_underlying htn,run_underlying hu,sizeOf,typeInfo,zeroValue,hi,hz,hsize,hby,asInt,asIntOf,hw,Builtin.lenOf,bC_,hn,hneg,hk0,h48i,hf,Value.cells]
 ·simp [Builtin.append_,run_underlying ht,run_underlying htn,run_underlying hu,sizeOf,typeInfo,zeroValue,hi,hz,hsize,hby,asInt,asIntOf,hw,Builtin.lenOf,bC_,hn,hneg,hk0,h48i,h63',hf,Value.cells]
  have h48':Builtin.nextslicecap (sLen+k) sCap*1<=281474976710656:=growslice_fits (by omega) (by omega)
  have hno:¬ (281474976710656<Builtin.nextslicecap (sLen+k) sCap):=by omega
  rw [if_neg hno,if_neg hno]
/-- append(s, make([]byte, k)...) to a row of the call's own, for the walk. -/
theorem dz_ {P:Program} (w:World) {ops:Array Oper} {rest:List Oper} {o:Oper} {a:Act} {Q:Exit->Act->World->Prop} (hgd:o.guard=none) (sl x:Operand) (t tn u:TypeId)
  (ho:o.op=.call {callee:=.builtin .append,args:=#[sl,x],argTypes:=#[t,tn]})
  (base:Nat) (e:TypeId) (i:TypeInfo) (kn:IntKind) (ht:P.underlying t=some (.slice e)) (htn:P.underlying tn=some (.int kn)) (hu:P.underlying u=some .string) (hi:P.info? e=some i) (hz:i.zero=some (.int .u8 0))
  (hsize:i.size=1) (hby:i.bytes=1)
  (v:Value) (n:Nat) (xs:List Value) (hs:a.eval sl=v) (hown:w.ownsRow base e 1 v n xs) (kq:IntKind) (k:Nat) (hx:a.eval x=.int kq k) (hk:0<k)
  (hbytes:n+k<=140737488355328) (hbase:base<=w.heap.size)
  (h:∀ v' w',w'.ownsRow base e 1 v' (n+k) (xs++strCells (zs k))->w.grownBy w' v.ownBlock->wpList P ops Q rest (a.put o.dst v') w'):wpList P ops Q (o::rest) a w:=by
 refine wpList_plain hgd fun K hK=>?_
 obtain ⟨v',w',hr,h2,h3,_⟩:=run_append_own_string (P:=P) w base t u o.type e i ht hu hi hz hsize hby v n xs hown (zs k) (by rw [bC_];unfold maxLen;omega) (by rw [bC_];omega) hbase
 rw [bC_] at h2
 obtain ⟨b0,l0,c0,rfl⟩:∃ b0 l0 c0,v=.slice b0 l0 c0:=by
  rcases hown.2 with ⟨rfl,_⟩ | ⟨g,cap,cur,rfl,_⟩
  ·exact ⟨_,_,_,rfl⟩
  ·exact ⟨_,_,_,rfl⟩
 have hl0:l0+k<=140737488355328:=by
  rcases hown.2 with ⟨e1,_⟩ | ⟨g,cap,cur,e1,_⟩
  ·simp at e1;omega
  ·simp at e1;omega
 rw [<-hM_ w t tn u o.type e i kn kq ht htn hu hi hz hsize hby b0 l0 c0 k hk hl0] at hr
 unfold Oper.wp execOp
 simp only [ho,resolve,invoke,builtin,Sem.run_bind,Sem.run_pure,Result.andThen_ok,List.map_toArray,List.map_cons,List.map_nil,hs,hx,hr]
 exact hK _ _ (h v' w' h2 h3)
/-- A row of the call's own that holds a text's bytes, as a text. -/
theorem iQ_ {P:Program} {w:World} {B e:Nat} {v:Value} {n:Nat} {s:ByteArray} (h:w.ownsRow B e 1 v n (strCells s)) (src:TypeId) (hs:P.underlying src=some (.slice e)) (he:P.underlying e=some (.int .u8)) :
  ∀ dst,P.underlying dst=some .string->(convert src dst v).run P w=.ok (.string s) w:=by
 intro dst hd
 have hn:n=s.size:=by have:=h.1;rw [strCells_length] at this;omega
 rcases h.2 with ⟨rfl,h0⟩ | ⟨g,cap,cur,rfl,_,hg,hnc,_,hcs,htk⟩
 ·rw [run_convert_bytes_nil w src e hs he 0 0 dst hd]
  have:s.size=0:=by omega
  obtain ⟨⟨l⟩⟩:=s
  simp [ByteArray.size] at this
  subst this
  rfl
 ·have:=run_convert_bytes_arg (P:=P) w src e hs he g 0 n cap (s.data.toList.map fun b=>(b.toNat:Int)) (by rw [List.length_map,Array.length_toList,hn];rfl) (fun i hi=>by
   have h1:(strCells s)[i]?=some (.int .u8 ((s.data.toList.map fun b=>(b.toNat:Int)).getD i 0)):=by
    have hi':i<s.data.size:=by rw [hn] at hi;exact hi
    simp [strCells]
    exact ⟨s.data[i],Array.getElem?_eq_getElem hi',by rw [Array.getElem?_eq_getElem hi'];rfl⟩
   rw [<-htk,Nat.mul_one,List.getElem?_take_of_lt hi] at h1
   simp only [World.cell?,hg,Nat.zero_add]
   rw [<-h1];simp) dst hd
  rw [this]
  congr 2
  obtain ⟨⟨l⟩⟩:=s
  simp [strOfNums]
  rw [show ((fun n:Int=>UInt8.ofNat n.toNat) ∘ fun b:UInt8=>(b.toNat:Int))=id from funext fun b=>by simp]
  simp
end Go.Proofs.YtigldeccfpkdmaaGreatDoor
