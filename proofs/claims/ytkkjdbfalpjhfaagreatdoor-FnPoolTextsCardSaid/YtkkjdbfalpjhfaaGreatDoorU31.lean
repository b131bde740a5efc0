/- Texts of pools, read and written; what is drawn. -/
import Derived.Test.YtkkjdbfalpjhfaaGreatDoorU29
set_option maxHeartbeats 20000000
set_option maxRecDepth 100000
namespace Go.Proofs.YtkkjdbfalpjhfaaGreatDoor
section
open Go Go.RowKit Go.BigFrame Go.Shelf Tryz
theorem Ki {p:Pt}(h:Ao p=true)(hn:p.n<=100):Num p.a∧Num p.f∧Num p.n:=by
 unfold Ao at h
 unfold Num
 split at h
 ·rename_i ha
  simp only[Zf,ZU,beq_iff_eq] at h ha
  omega
 ·simp only[Zf,ZU] at h
  omega
theorem Eg {n:Int}(h0:-10000000000<n)(h1:n<10000000000):(AK n).size<=11:=by
 show (Lib.itoa n).toArray.size<=11
 rw[YI]
 unfold Lib.itoa
 split
 ·have:=EF 9 n.natAbs (by omega)
  simp
  omega
 ·have:=EF 9 n.toNat (by omega)
  omega
theorem Kh {p:Pt}(h:Ao p=true)(hn:p.n<=100):(AK p.a).size<=11∧(AK p.f).size<=11∧(AK p.n).size<=11:=by
 unfold Ao at h
 split at h
 ·rename_i ha
  simp only[Zf,ZU,beq_iff_eq] at h ha
  exact⟨Eg (by omega) (by omega),Eg (by omega) (by omega),Eg (by omega) (by omega)⟩
 ·simp only[Zf,ZU] at h
  exact⟨Eg (by omega) (by omega),Eg (by omega) (by omega),Eg (by omega) (by omega)⟩
theorem Cn:∀ (l:List ByteArray),(CE l).length<=(l.map (fun x=>x.size+1)).sum
 |[]=>by unfold CE;simp[Lib.join]
 |[a]=>by rw[Cx];simp
 |a::b::l=>by
  rw[B3]
  have:=Cn (b::l)
  simp at this ⊢
  omega
theorem Cg {α:Type}{f:α->List UInt8}{m:Nat}:∀ {l:List α},(∀ x∈l,(f x).length<=m)->(l.flatMap f).length<=l.length*m
 |[],_=>by simp
 |x::r,h=>by
  have h1:=h x (by simp)
  have h2:=Cg (l:=r) fun y hy=>h y (by simp[hy])
  rw[ZF,ZE,Zw,Yd]
  omega
theorem Dw {n:Int}(h:Num n):(AK n).size<=13:=Gj h.1 h.2
theorem JS {c:Ct}(h:AI c.o=true)(h1:-1000<=c.n)(h2:c.n<=1000):(Num c.o.a∧Num c.o.v∧Num c.n)∧c.o.f.size<=8:=by
 simp only[AI,nameB,Zf,ZU] at h
 unfold Num
 omega
theorem Ij {word:ByteArray}{c:Ct}(hw:word.size<=4)(h:Num c.o.a∧Num c.o.v∧Num c.n)(hf:c.o.f.size<=8):(Ah (ctL word c)).length<=60:=by
 have h1:=Cn (ctL word c)
 have:=Dw h.1
 have:=Dw h.2.1
 have:=Dw h.2.2
 unfold Ah
 simp[ctL] at h1 ⊢
 omega
theorem Ke {p:Po}(h:At p=true):Jb p∧(Bq p).length<=60000:=by
 obtain⟨v1,v2,v3,v4,_⟩:=bL_ h
 obtain⟨s1,s2,s3,s4⟩:=cu_ v4
 obtain⟨r1,r2⟩:=Gv h
 have ha:1<=p.next:=by
  simp only[At,Zf,ZU] at h
  exact h.1.1.1.1.1.2
 have hE:=Fr s4 (by omega)
 have hV:=Fp v2 (by omega)
 simp only[AF,Zf,ZU] at r1
 simp only[AO,Zf,ZU,List.all_eq_true] at r2
 have hR:∀ c∈p.rf,(Num c.o.a∧Num c.o.v∧Num c.n)∧c.o.f.size<=8:=fun c hc=>by
  have:=g1_ r1.2 c hc
  simp only[DD,Zf,ZU] at this
  exact JS this.1.1 (by omega) this.2
 have hL:∀ c∈p.lt,(Num c.o.a∧Num c.o.v∧Num c.n)∧c.o.f.size<=8:=fun c hc=>by
  have:=r2.2 c hc
  simp only[B9,Zf,ZU] at this
  exact JS this.1.1.1 this.1.1.2 this.1.2
 have hs:Num p.size:=⟨by omega,by omega⟩
 have hn:Num p.next:=⟨by omega,by omega⟩
 have hX:∀ e∈p.ex,Num e.a:=fun e he=>by have:=hE e he;exact⟨by omega,by omega⟩
 have hI:∀ v∈p.vs,∀ x∈v.its,JH x.ps∧x.ps.length<=16∧x.nm.size<=8∧∀ q∈x.ps,(AK q.a).size<=11∧(AK q.f).size<=11∧(AK q.n).size<=11:=fun v hv x hx=>by
  obtain⟨_,_,_,_,a5⟩:=hV v hv
  obtain⟨b1,b2⟩:=Fe a5 x hx
  simp only[Ae,Zf,ZU] at b2
  exact⟨fun q hq=>Ki (jR_ b2.2 (by omega) q hq).1 (jR_ b2.2 (by omega) q hq).2,b2.1,b1,fun q hq=>Kh (jR_ b2.2 (by omega) q hq).1 (jR_ b2.2 (by omega) q hq).2⟩
 suffices hlen:(Bq p).length<=60000 from ⟨⟨hs,hn,hX,fun v hv=>⟨⟨by have:=(hV v hv).1;omega,by have:=(hV v hv).2.1;omega⟩,fun x hx=>(hI v hv x hx).1,by have:=(hV v hv).2.2.2.1;omega,fun x hx=>by have:=(hI v hv x hx).2.1;omega⟩,fun c hc=>(hR c hc).1,fun c hc=>(hL c hc).1,by omega⟩,hlen⟩
 have t1:(Ah (hdW p)).length<=50:=by
  have h1:=Cn (hdW p)
  have:=Dw hs
  have:=Dw hn
  unfold Ah
  simp[hdW] at h1 ⊢
  have e4:(ByteArray.mk #[112,111,111,108]).size=4:=rfl
  omega
 have t2:(Dx p.ex).length<=p.ex.length*60:=Cg fun e he=>by
  have h1:=Cn (exW e)
  have:=Dw (hX e he)
  have:=(hE e he).2.2
  have e6:(ByteArray.mk #[101,120,116,101,110,116]).size=6:=rfl
  show (Ah (exW e)).length<=_
  unfold Ah
  simp[exW] at h1 ⊢
  omega
 have t3:(BX p.vs).length<=p.vs.length*4000:=Cg fun v hv=>by
  obtain⟨a1,a2,a3,a4,_⟩:=hV v hv
  have h1:=Cn (voW v)
  have:=Dw (n:=v.id) ⟨by omega,by omega⟩
  have e6:(ByteArray.mk #[118,111,108,117,109,101]).size=6:=rfl
  have e1:(FS v.fx).size=1:=by cases v.fx<;>rfl
  have i1:(BT v.its).length<=v.its.length*740:=Cg fun x hx=>by
   obtain⟨_,b2,b3,b4⟩:=hI v hv x hx
   have p1:(AQ x.ps).length<=x.ps.length*44:=Cg fun q hq=>by
    obtain⟨c1,c2,c3⟩:=b4 q hq
    have h1:=Cn (ptW q)
    have e4:(ByteArray.mk #[112,97,114,116]).size=4:=rfl
    show (Ah (ptW q)).length<=_
    unfold Ah
    simp[ptW] at h1 ⊢
    omega
   have h1:=Cn [⟨#[102,105,108,101]⟩,x.nm]
   have e4:(ByteArray.mk #[102,105,108,101]).size=4:=rfl
   unfold itW Ah
   simp at h1 ⊢
   omega
  unfold Dg Ah
  simp[voW] at h1 ⊢
  omega
 have t4:(Br Dp p.rf).length<=p.rf.length*60:=Cg fun c hc=>Ij (by decide) (hR c hc).1 (hR c hc).2
 have t5:(Br B2 p.lt).length<=p.lt.length*60:=Cg fun c hc=>Ij (by decide) (hL c hc).1 (hL c hc).2
 unfold Bq
 rw[ZE,ZE,ZE,ZE]
 have:=r1.1
 have:=r2.1
 omega
end
section
open Go.Shelf Go.RowKit Go.Lib Tryz
def J0:Go.Shelf.Ren:=⟨fun | 173=>43 | 246=>80 | 283=>108 | 284=>109 | 285=>110 | 286=>111 | 129=>140 | 317=>139 | 318=>141 | 319=>142 | 320=>143 | 337=>167 | 338=>168 | n=>n,fun | 2=>2 | 3=>3 | 9=>9 | 4=>4 | 171=>151 | 0=>0 | 53=>145 | 37=>22 | 5=>5 | 173=>154 | 212=>180 | 51=>181 | 20=>20 | 213=>182 | 46=>147 | 232=>213 | 233=>214 | n=>n,fun | 17=>1 | 18=>3 | 19=>4 | n=>n⟩
theorem Ml:LaysM.n173 Tryz.prog J0 where
 mixed:=by kernel_rfl
 f129:=Tryz.func140.trans (congrArg some (by kernel_rfl))
 f173:=Tryz.func43.trans (congrArg some (by kernel_rfl))
 f246:=Tryz.func80.trans (congrArg some (by kernel_rfl))
 f283:=Tryz.func108.trans (congrArg some (by kernel_rfl))
 f284:=Tryz.func109.trans (congrArg some (by kernel_rfl))
 f285:=Tryz.func110.trans (congrArg some (by kernel_rfl))
 f286:=Tryz.func111.trans (congrArg some (by kernel_rfl))
 f317:=Tryz.func139.trans (congrArg some (by kernel_rfl))
 f318:=Tryz.func141.trans (congrArg some (by kernel_rfl))
 f319:=Tryz.func142.trans (congrArg some (by kernel_rfl))
 f320:=Tryz.func143.trans (congrArg some (by kernel_rfl))
 f337:=Tryz.func167.trans (congrArg some (by kernel_rfl))
 f338:=Tryz.func168.trans (congrArg some (by kernel_rfl))
 t0:=Tryz.underlying0
 a0:=Tryz.isAgg0
 z0:=Tryz.sizeOf0
 v0:=Tryz.zeroValue0
 t2:=Tryz.underlying2
 a2:=Tryz.isAgg2
 z2:=Tryz.sizeOf2
 v2:=Tryz.zeroValue2
 t3:=Tryz.underlying3
 a3:=Tryz.isAgg3
 z3:=Tryz.sizeOf3
 v3:=Tryz.zeroValue3
 t4:=Tryz.underlying4
 a4:=Tryz.isAgg4
 z4:=Tryz.sizeOf4
 v4:=Tryz.zeroValue4
 t5:=Tryz.underlying5
 a5:=Tryz.isAgg5
 z5:=Tryz.sizeOf5
 v5:=Tryz.zeroValue5
 t9:=Tryz.underlying9
 a9:=Tryz.isAgg9
 z9:=Tryz.sizeOf9
 v9:=Tryz.zeroValue9
 t20:=Tryz.underlying20
 a20:=Tryz.isAgg20
 z20:=Tryz.sizeOf20
 v20:=Tryz.zeroValue20
 t37:=Tryz.underlying22
 a37:=Tryz.isAgg22
 z37:=Tryz.sizeOf22
 v37:=Tryz.zeroValue22
 t46:=Tryz.underlying147
 a46:=Tryz.isAgg147
 z46:=Tryz.sizeOf147
 v46:=Tryz.zeroValue147
 t51:=Tryz.underlying181
 a51:=Tryz.isAgg181
 z51:=Tryz.sizeOf181
 v51:=Tryz.zeroValue181
 t53:=Tryz.underlying145
 a53:=Tryz.isAgg145
 z53:=Tryz.sizeOf145
 v53:=Tryz.zeroValue145
 t171:=Tryz.underlying151
 a171:=Tryz.isAgg151
 z171:=Tryz.sizeOf151
 v171:=Tryz.zeroValue151
 t173:=Tryz.underlying154
 a173:=Tryz.isAgg154
 z173:=Tryz.sizeOf154
 v173:=Tryz.zeroValue154
 t212:=Tryz.underlying180
 a212:=Tryz.isAgg180
 z212:=Tryz.sizeOf180
 v212:=Tryz.zeroValue180
 t213:=Tryz.underlying182
 a213:=Tryz.isAgg182
 z213:=Tryz.sizeOf182
 t232:=Tryz.underlying213
 a232:=Tryz.isAgg213
 z232:=Tryz.sizeOf213
 v232:=Tryz.zeroValue213
 t233:=Tryz.underlying214
 a233:=Tryz.isAgg214
 z233:=Tryz.sizeOf214
 v233:=Tryz.zeroValue214
 g17:=by kernel_rfl
 g18:=by kernel_rfl
 g19:=by kernel_rfl
 i0:=by kernel_rfl
 i2:=by kernel_rfl
 i3:=by kernel_rfl
 i4:=by kernel_rfl
 i5:=by kernel_rfl
 i9:=by kernel_rfl
 i20:=by kernel_rfl
 i37:=by kernel_rfl
 i46:=by kernel_rfl
 i51:=by kernel_rfl
 i53:=by kernel_rfl
 i171:=by kernel_rfl
 i173:=by kernel_rfl
 i212:=by kernel_rfl
 i232:=by kernel_rfl
 i233:=by kernel_rfl
 m17:=by kernel_rfl
 m18:=by kernel_rfl
 m19:=by kernel_rfl
end
section
open Go Go.RowKit Go.BigFrame Tryz
theorem AA (n:Int)(w:World)(h0:-9223372036854775808<=n)(h1:n<=9223372036854775807)(ht:EY w) :
  Calls prog 16 #[.int .i64 n] w fun e w'=>e=.returned (.string (AK n))∧Below w.heap.size w w':=by
 go_enter func16,ntmps16
 go_wp2_with fail
 refine (Any.strconv_FormatInt_10 Ml n h0 h1 w ht).mono ?_
 rintro e w1 ⟨rfl,k,os,rfl⟩
 have hB:=Lib.below_grow w.heap.size w (Zd _) k os
 generalize Sort.grow (w.drewN k) os=W at *
 go_wp2
 go_returns
 exact⟨rfl,hB⟩
end
end Go.Proofs.YtkkjdbfalpjhfaaGreatDoor
