/- Texts of pools, read and written; what is drawn. -/
import Derived.Test.YtkiceokhlceciaaGreatDoorU30
set_option maxHeartbeats 20000000
set_option maxRecDepth 100000
namespace Go.Proofs.YtkiceokhlceciaaGreatDoor
section
open Go Go.RowKit Go.BigFrame Go.Shelf Tryz
theorem KY {p:Pt}(h:Ao p=true)(hn:p.n<=100):Num p.a∧Num p.f∧Num p.n:=by
 unfold Ao at h
 unfold Num
 split at h
 ·rename_i ha
  simp only[Zf,ZU,beq_iff_eq] at h ha
  omega
 ·simp only[Zf,ZU] at h
  omega
theorem Ey {n:Int}(h0:-10000000000<n)(h1:n<10000000000):(AF n).size<=11:=by
 show (Lib.itoa n).toArray.size<=11
 rw[YI]
 unfold Lib.itoa
 split
 ·have:=EX 9 n.natAbs (by omega)
  simp
  omega
 ·have:=EX 9 n.toNat (by omega)
  omega
theorem KX {p:Pt}(h:Ao p=true)(hn:p.n<=100):(AF p.a).size<=11∧(AF p.f).size<=11∧(AF p.n).size<=11:=by
 unfold Ao at h
 split at h
 ·rename_i ha
  simp only[Zf,ZU,beq_iff_eq] at h ha
  exact⟨Ey (by omega) (by omega),Ey (by omega) (by omega),Ey (by omega) (by omega)⟩
 ·simp only[Zf,ZU] at h
  exact⟨Ey (by omega) (by omega),Ey (by omega) (by omega),Ey (by omega) (by omega)⟩
theorem Cx:∀ (l:List ByteArray),(CQ l).length<=(l.map (fun x=>x.size+1)).sum
 |[]=>by unfold CQ;simp[Lib.join]
 |[a]=>by rw[CJ];simp
 |a::b::l=>by
  rw[B6]
  have:=Cx (b::l)
  simp at this ⊢
  omega
theorem Cp {α:Type}{f:α->List UInt8}{m:Nat}:∀ {l:List α},(∀ x∈l,(f x).length<=m)->(l.flatMap f).length<=l.length*m
 |[],_=>by simp
 |x::r,h=>by
  have h1:=h x (by simp)
  have h2:=Cp (l:=r) fun y hy=>h y (by simp[hy])
  rw[ZF,ZE,Zw,Yd]
  omega
theorem DK {n:Int}(h:Num n):(AF n).size<=13:=Dw h.1 h.2
theorem Kx {c:Ct}(h:AN c.o=true)(h1:-1000<=c.n)(h2:c.n<=1000):(Num c.o.a∧Num c.o.v∧Num c.n)∧c.o.f.size<=8:=by
 simp only[AN,nameB,Zf,ZU] at h
 unfold Num
 omega
theorem I0 {word:ByteArray}{c:Ct}(hw:word.size<=4)(h:Num c.o.a∧Num c.o.v∧Num c.n)(hf:c.o.f.size<=8):(Ah (ctL word c)).length<=60:=by
 have h1:=Cx (ctL word c)
 have:=DK h.1
 have:=DK h.2.1
 have:=DK h.2.2
 unfold Ah
 simp[ctL] at h1 ⊢
 omega
theorem KV {p:Po}(h:Ap p=true):Hc p∧(AO p).length<=60000:=by
 obtain⟨v1,v2,v3,v4,_⟩:=bL_ h
 obtain⟨s1,s2,s3,s4⟩:=cu_ v4
 obtain⟨r1,r2⟩:=GY h
 have ha:1<=p.next:=by
  simp only[Ap,Zf,ZU] at h
  exact h.1.1.1.1.1.2
 have hE:=FH s4 (by omega)
 have hV:=FF v2 (by omega)
 simp only[AI,Zf,ZU] at r1
 simp only[AR,Zf,ZU,List.all_eq_true] at r2
 have hR:∀ c∈p.rf,(Num c.o.a∧Num c.o.v∧Num c.n)∧c.o.f.size<=8:=fun c hc=>by
  have:=g1_ r1.2 c hc
  simp only[DU,Zf,ZU] at this
  exact Kx this.1.1 (by omega) this.2
 have hL:∀ c∈p.lt,(Num c.o.a∧Num c.o.v∧Num c.n)∧c.o.f.size<=8:=fun c hc=>by
  have:=r2.2 c hc
  simp only[Ce,Zf,ZU] at this
  exact Kx this.1.1.1 this.1.1.2 this.1.2
 have hs:Num p.size:=⟨by omega,by omega⟩
 have hn:Num p.next:=⟨by omega,by omega⟩
 have hX:∀ e∈p.ex,Num e.a:=fun e he=>by have:=hE e he;exact⟨by omega,by omega⟩
 have hI:∀ v∈p.vs,∀ x∈v.its,Kk x.ps∧x.ps.length<=16∧x.nm.size<=8∧∀ q∈x.ps,(AF q.a).size<=11∧(AF q.f).size<=11∧(AF q.n).size<=11:=fun v hv x hx=>by
  obtain⟨_,_,_,_,a5⟩:=hV v hv
  obtain⟨b1,b2⟩:=Fu a5 x hx
  simp only[Ae,Zf,ZU] at b2
  exact⟨fun q hq=>KY (jR_ b2.2 (by omega) q hq).1 (jR_ b2.2 (by omega) q hq).2,b2.1,b1,fun q hq=>KX (jR_ b2.2 (by omega) q hq).1 (jR_ b2.2 (by omega) q hq).2⟩
 suffices hlen:(AO p).length<=60000 from ⟨⟨hs,hn,hX,fun v hv=>⟨⟨by have:=(hV v hv).1;omega,by have:=(hV v hv).2.1;omega⟩,fun x hx=>(hI v hv x hx).1,by have:=(hV v hv).2.2.2.1;omega,fun x hx=>by have:=(hI v hv x hx).2.1;omega⟩,fun c hc=>(hR c hc).1,fun c hc=>(hL c hc).1,by omega⟩,hlen⟩
 have t1:(Ah (hdW p)).length<=50:=by
  have h1:=Cx (hdW p)
  have:=DK hs
  have:=DK hn
  unfold Ah
  simp[hdW] at h1 ⊢
  have e4:(ByteArray.mk #[112,111,111,108]).size=4:=rfl
  omega
 have t2:(DN p.ex).length<=p.ex.length*60:=Cp fun e he=>by
  have h1:=Cx (exW e)
  have:=DK (hX e he)
  have:=(hE e he).2.2
  have e6:(ByteArray.mk #[101,120,116,101,110,116]).size=6:=rfl
  show (Ah (exW e)).length<=_
  unfold Ah
  simp[exW] at h1 ⊢
  omega
 have t3:(B2 p.vs).length<=p.vs.length*4000:=Cp fun v hv=>by
  obtain⟨a1,a2,a3,a4,_⟩:=hV v hv
  have h1:=Cx (voW v)
  have:=DK (n:=v.id) ⟨by omega,by omega⟩
  have e6:(ByteArray.mk #[118,111,108,117,109,101]).size=6:=rfl
  have e1:(Gi v.fx).size=1:=by cases v.fx<;>rfl
  have i1:(BY v.its).length<=v.its.length*740:=Cp fun x hx=>by
   obtain⟨_,b2,b3,b4⟩:=hI v hv x hx
   have p1:(AT x.ps).length<=x.ps.length*44:=Cp fun q hq=>by
    obtain⟨c1,c2,c3⟩:=b4 q hq
    have h1:=Cx (ptW q)
    have e4:(ByteArray.mk #[112,97,114,116]).size=4:=rfl
    show (Ah (ptW q)).length<=_
    unfold Ah
    simp[ptW] at h1 ⊢
    omega
   have h1:=Cx [⟨#[102,105,108,101]⟩,x.nm]
   have e4:(ByteArray.mk #[102,105,108,101]).size=4:=rfl
   unfold itW Ah
   simp at h1 ⊢
   omega
  unfold Dr Ah
  simp[voW] at h1 ⊢
  omega
 have t4:(BC DE p.rf).length<=p.rf.length*60:=Cp fun c hc=>I0 (by decide) (hR c hc).1 (hR c hc).2
 have t5:(BC B5 p.lt).length<=p.lt.length*60:=Cp fun c hc=>I0 (by decide) (hL c hc).1 (hL c hc).2
 unfold AO
 rw[ZE,ZE,ZE,ZE]
 have:=r1.1
 have:=r2.1
 omega
end
section
open Go.Shelf Go.RowKit Go.Lib Tryz
def KG:Go.Shelf.Ren:=⟨fun | 173=>43 | 246=>80 | 283=>122 | 284=>123 | 285=>124 | 286=>125 | 129=>156 | 317=>155 | 318=>157 | 319=>158 | 320=>159 | 337=>178 | 338=>179 | n=>n,fun | 2=>2 | 3=>3 | 9=>9 | 4=>4 | 171=>165 | 0=>0 | 53=>110 | 37=>22 | 5=>5 | 173=>168 | 212=>193 | 51=>48 | 20=>20 | 213=>194 | 46=>85 | 232=>224 | 233=>225 | n=>n,fun | 17=>2 | 18=>5 | 19=>6 | n=>n⟩
theorem Nh:LaysM.n173 Tryz.prog KG where
 mixed:=by kernel_rfl
 f129:=Tryz.func156.trans (congrArg some (by kernel_rfl))
 f173:=Tryz.func43.trans (congrArg some (by kernel_rfl))
 f246:=Tryz.func80.trans (congrArg some (by kernel_rfl))
 f283:=Tryz.func122.trans (congrArg some (by kernel_rfl))
 f284:=Tryz.func123.trans (congrArg some (by kernel_rfl))
 f285:=Tryz.func124.trans (congrArg some (by kernel_rfl))
 f286:=Tryz.func125.trans (congrArg some (by kernel_rfl))
 f317:=Tryz.func155.trans (congrArg some (by kernel_rfl))
 f318:=Tryz.func157.trans (congrArg some (by kernel_rfl))
 f319:=Tryz.func158.trans (congrArg some (by kernel_rfl))
 f320:=Tryz.func159.trans (congrArg some (by kernel_rfl))
 f337:=Tryz.func178.trans (congrArg some (by kernel_rfl))
 f338:=Tryz.func179.trans (congrArg some (by kernel_rfl))
 t0:=Tryz.underlying0
 a0:=Tryz.isAgg0
 z0:=Tryz.sizeOf0
 v0:=Tryz.zeroValue0
 t2:=Tryz.underlying2
 a2:=Tryz.isAgg2
 z2:=Tryz.sizeOf2
 v2:=Tryz.zeroValue2
 t3:=Tryz.underlying3
 a3:=Tryz.isAgg3
 z3:=Tryz.sizeOf3
 v3:=Tryz.zeroValue3
 t4:=Tryz.underlying4
 a4:=Tryz.isAgg4
 z4:=Tryz.sizeOf4
 v4:=Tryz.zeroValue4
 t5:=Tryz.underlying5
 a5:=Tryz.isAgg5
 z5:=Tryz.sizeOf5
 v5:=Tryz.zeroValue5
 t9:=Tryz.underlying9
 a9:=Tryz.isAgg9
 z9:=Tryz.sizeOf9
 v9:=Tryz.zeroValue9
 t20:=Tryz.underlying20
 a20:=Tryz.isAgg20
 z20:=Tryz.sizeOf20
 v20:=Tryz.zeroValue20
 t37:=Tryz.underlying22
 a37:=Tryz.isAgg22
 z37:=Tryz.sizeOf22
 v37:=Tryz.zeroValue22
 t46:=Tryz.underlying85
 a46:=Tryz.isAgg85
 z46:=Tryz.sizeOf85
 v46:=Tryz.zeroValue85
 t51:=Tryz.underlying48
 a51:=Tryz.isAgg48
 z51:=Tryz.sizeOf48
 v51:=Tryz.zeroValue48
 t53:=Tryz.underlying110
 a53:=Tryz.isAgg110
 z53:=Tryz.sizeOf110
 v53:=Tryz.zeroValue110
 t171:=Tryz.underlying165
 a171:=Tryz.isAgg165
 z171:=Tryz.sizeOf165
 v171:=Tryz.zeroValue165
 t173:=Tryz.underlying168
 a173:=Tryz.isAgg168
 z173:=Tryz.sizeOf168
 v173:=Tryz.zeroValue168
 t212:=Tryz.underlying193
 a212:=Tryz.isAgg193
 z212:=Tryz.sizeOf193
 v212:=Tryz.zeroValue193
 t213:=Tryz.underlying194
 a213:=Tryz.isAgg194
 z213:=Tryz.sizeOf194
 t232:=Tryz.underlying224
 a232:=Tryz.isAgg224
 z232:=Tryz.sizeOf224
 v232:=Tryz.zeroValue224
 t233:=Tryz.underlying225
 a233:=Tryz.isAgg225
 z233:=Tryz.sizeOf225
 v233:=Tryz.zeroValue225
 g17:=by kernel_rfl
 g18:=by kernel_rfl
 g19:=by kernel_rfl
 i0:=by kernel_rfl
 i2:=by kernel_rfl
 i3:=by kernel_rfl
 i4:=by kernel_rfl
 i5:=by kernel_rfl
 i9:=by kernel_rfl
 i20:=by kernel_rfl
 i37:=by kernel_rfl
 i46:=by kernel_rfl
 i51:=by kernel_rfl
 i53:=by kernel_rfl
 i171:=by kernel_rfl
 i173:=by kernel_rfl
 i212:=by kernel_rfl
 i232:=by kernel_rfl
 i233:=by kernel_rfl
 m17:=by kernel_rfl
 m18:=by kernel_rfl
 m19:=by kernel_rfl
end
section
open Go Go.RowKit Go.BigFrame Tryz
theorem Az (n:Int)(w:World)(h0:-9223372036854775808<=n)(h1:n<=9223372036854775807)(ht:ES w) :
  Calls prog 18 #[.int .i64 n] w fun e w'=>e=.returned (.string (AF n))∧Below w.heap.size w w':=by
 go_enter func18,ntmps18
 go_wp2_with fail
 refine (Any.strconv_FormatInt_10 Nh n h0 h1 w ht).mono ?_
 rintro e w1 ⟨rfl,k,os,rfl⟩
 have hB:=Lib.below_grow w.heap.size w (Zd _) k os
 generalize Sort.grow (w.drewN k) os=W at *
 go_wp2
 go_returns
 exact⟨rfl,hB⟩
end
end Go.Proofs.YtkiceokhlceciaaGreatDoor
