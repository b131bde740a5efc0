/- Texts of pools, read and written; what is drawn. -/
import Derived.Test.YtkiceokhlceciaaGreatDoorU10
import Derived.Test.YtkiceokhlceciaaGreatDoorU14
import Derived.Test.YtkiceokhlceciaaGreatDoorU32
import Derived.Test.YtkiceokhlceciaaGreatDoorU33
set_option maxHeartbeats 20000000
set_option maxRecDepth 100000
namespace Go.Proofs.YtkiceokhlceciaaGreatDoor
section
open Go Tryz
theorem GM {t:By}(h:t≠[]):Lib.decNat t=Lib.decFrom 0 t:=by
 unfold Lib.decNat
 cases t with
 |nil=>exact absurd rfl h
 |cons x l=>rfl
theorem GJ (n:Int):Lib.atoi (Lib.itoa n)=some n:=by
 unfold Lib.itoa
 split
 ·next hn=>
  obtain⟨k,rfl⟩:∃ k:Nat,n=-(k:Int):=⟨n.natAbs,by omega⟩
  rw[show (-(k:Int)).natAbs=k by omega]
  unfold Lib.atoi
  simp only[beq_self_eq_true,if_true]
  rw[GM (Gh k),CH]
  rfl
 ·next hn=>
  obtain⟨k,rfl⟩:∃ k:Nat,n=(k:Int):=⟨n.toNat,by omega⟩
  rw[show (k:Int).toNat=k by omega]
  obtain⟨d,r,e,hd⟩:=Gg k
  have h2:=GM (Gh k)
  rw[CH,e] at h2
  rw[e]
  unfold Lib.atoi
  have ha:(UInt8.ofNat (48+d)==43)=false:=by
   rw[ZV]
   intro e
   have:=congrArg UInt8.toNat e
   simp at this
   omega
  have hb:(UInt8.ofNat (48+d)==45)=false:=by
   rw[ZV]
   exact KW hd
  simp only[ha,hb]
  rw[h2]
  rfl
def Cn (s:By):By:=Lib.trimPrefix s [45]
theorem Kd (t:By):Cn (45::t)=t:=by simp[Cn,Lib.trimPrefix,Lib.hasPrefix]
theorem Ke {t:By}(h:t.head?≠some 45):Cn t=t:=by
 unfold Cn Lib.trimPrefix Lib.hasPrefix
 cases t with
 |nil=>rfl
 |cons x l=>
  have:¬ x=45:=fun e=>h (by simp[e])
  rw[if_neg]
  simp
  exact fun e=>this e.symm
theorem G6 (n:Int):Cn (Lib.itoa n)=Lib.decDigits n.natAbs:=by
 unfold Lib.itoa
 split
 ·exact Kd _
 ·next hn=>
  obtain⟨k,rfl⟩:∃ k:Nat,n=(k:Int):=⟨n.toNat,by omega⟩
  rw[show (k:Int).toNat=k by omega,show (k:Int).natAbs=k by omega]
  obtain⟨d,r,e,hd⟩:=Gg k
  exact Ke (by rw[e];simp only[List.head?_cons,ne_eq,Zo];exact KW hd)
theorem MG {n:Int}(h:(Cn (Lib.itoa n)).length<=10):AK n:=by
 rw[G6] at h
 have h1:=DJ _ 0 _ (CH n.natAbs)
 have h2:10 ^ (Lib.decDigits n.natAbs).length<=10 ^ 10:=Nat.pow_le_pow_right (by omega) h
 have h3:(10:Nat) ^ 10=10000000000:=by decide
 unfold AK
 omega
theorem LW {n:Int}(h:AK n):(Cn (Lib.itoa n)).length<=10:=by
 rw[G6]
 obtain⟨h1,h2⟩:=h
 exact Hm 9 _ (by omega)
theorem GX {s:By}(h:10<(Cn s).length):numP s=none:=by
 cases hc:numP s with
 |none=>rfl
 |some n=>
  obtain⟨rfl,h2⟩:=Bh hc
  have:=LW h2
  omega
theorem H6 {s:By}(h:Lib.atoi s=none):numP s=none:=by
 cases hc:numP s with
 |none=>rfl
 |some n=>
  obtain⟨rfl,h2⟩:=Bh hc
  rw[GJ] at h
  cases h
theorem Gp {s:By}{n:Int}(h:Lib.atoi s=some n)(h2:Lib.itoa n≠s):numP s=none:=by
 cases hc:numP s with
 |none=>rfl
 |some m=>
  obtain⟨rfl,_⟩:=Bh hc
  rw[GJ] at h
  obtain rfl:=Zi h
  exact absurd rfl h2
theorem GW {s:By}{n:Int}(h1:(Cn s).length<=10)(h2:Lib.itoa n=s):numP s=some n:=by
 subst h2
 exact Bg (MG h1)
theorem Lc (s:By):s.length<=(Cn s).length+1:=by
 unfold Cn Lib.trimPrefix
 split
 ·simp;omega
 ·simp
theorem FK {s:By}(h:(Cn s).length<=10):Lib.parseIntB 64 s=Lib.NumEnd.ofOption (Lib.atoi s):=by
 have:=Lc s
 rw[Lib.parseIntB_64,Lib.atoiAll_short s (by omega)]
end
section
open Go.Shelf Go.RowKit Go.Lib Tryz
def LO:Go.Shelf.Ren:=⟨fun | 174=>46 | 247=>83 | 245=>84 | 287=>131 | 279=>132 | 280=>133 | 281=>134 | 282=>135 | 321=>162 | 322=>163 | 316=>164 | 171=>166 | 205=>165 | 243=>180 | 246=>80 | 283=>122 | 284=>123 | 285=>124 | 286=>125 | 129=>156 | 317=>155 | 318=>157 | 319=>158 | 320=>159 | 337=>178 | 338=>179 | n=>n,fun | 9=>9 | 3=>3 | 2=>2 | 75=>88 | 85=>89 | 4=>4 | 167=>172 | 5=>5 | 53=>110 | 175=>173 | 46=>85 | 168=>175 | 37=>22 | 0=>0 | 210=>200 | 21=>21 | 127=>125 | 145=>210 | 143=>208 | 171=>165 | 173=>168 | 212=>193 | 51=>48 | 20=>20 | 213=>194 | 232=>224 | 233=>225 | 80=>83 | n=>n,fun | 15=>3 | 16=>4 | 17=>2 | 18=>5 | 19=>6 | n=>n⟩
theorem piL:LaysC.n174 Tryz.prog LO where
 mixed:=by kernel_rfl
 f129:=Tryz.func156.trans (congrArg some (by kernel_rfl))
 f171:=Tryz.func166.trans (congrArg some (by kernel_rfl))
 f174:=Tryz.func46.trans (congrArg some (by kernel_rfl))
 f205:=Tryz.func165.trans (congrArg some (by kernel_rfl))
 f243:=Tryz.func180.trans (congrArg some (by kernel_rfl))
 f245:=Tryz.func84.trans (congrArg some (by kernel_rfl))
 f246:=Tryz.func80.trans (congrArg some (by kernel_rfl))
 f247:=Tryz.func83.trans (congrArg some (by kernel_rfl))
 f279:=Tryz.func132.trans (congrArg some (by kernel_rfl))
 f280:=Tryz.func133.trans (congrArg some (by kernel_rfl))
 f281:=Tryz.func134.trans (congrArg some (by kernel_rfl))
 f282:=Tryz.func135.trans (congrArg some (by kernel_rfl))
 f283:=Tryz.func122.trans (congrArg some (by kernel_rfl))
 f284:=Tryz.func123.trans (congrArg some (by kernel_rfl))
 f285:=Tryz.func124.trans (congrArg some (by kernel_rfl))
 f286:=Tryz.func125.trans (congrArg some (by kernel_rfl))
 f287:=Tryz.func131.trans (congrArg some (by kernel_rfl))
 f316:=Tryz.func164.trans (congrArg some (by kernel_rfl))
 f317:=Tryz.func155.trans (congrArg some (by kernel_rfl))
 f318:=Tryz.func157.trans (congrArg some (by kernel_rfl))
 f319:=Tryz.func158.trans (congrArg some (by kernel_rfl))
 f320:=Tryz.func159.trans (congrArg some (by kernel_rfl))
 f321:=Tryz.func162.trans (congrArg some (by kernel_rfl))
 f322:=Tryz.func163.trans (congrArg some (by kernel_rfl))
 f337:=Tryz.func178.trans (congrArg some (by kernel_rfl))
 f338:=Tryz.func179.trans (congrArg some (by kernel_rfl))
 t0:=Tryz.underlying0
 a0:=Tryz.isAgg0
 z0:=Tryz.sizeOf0
 v0:=Tryz.zeroValue0
 t2:=Tryz.underlying2
 a2:=Tryz.isAgg2
 z2:=Tryz.sizeOf2
 v2:=Tryz.zeroValue2
 t3:=Tryz.underlying3
 a3:=Tryz.isAgg3
 z3:=Tryz.sizeOf3
 v3:=Tryz.zeroValue3
 t4:=Tryz.underlying4
 a4:=Tryz.isAgg4
 z4:=Tryz.sizeOf4
 v4:=Tryz.zeroValue4
 t5:=Tryz.underlying5
 a5:=Tryz.isAgg5
 z5:=Tryz.sizeOf5
 v5:=Tryz.zeroValue5
 t9:=Tryz.underlying9
 a9:=Tryz.isAgg9
 z9:=Tryz.sizeOf9
 v9:=Tryz.zeroValue9
 t20:=Tryz.underlying20
 a20:=Tryz.isAgg20
 z20:=Tryz.sizeOf20
 v20:=Tryz.zeroValue20
 t21:=Tryz.underlying21
 a21:=Tryz.isAgg21
 z21:=Tryz.sizeOf21
 v21:=Tryz.zeroValue21
 t37:=Tryz.underlying22
 a37:=Tryz.isAgg22
 z37:=Tryz.sizeOf22
 v37:=Tryz.zeroValue22
 t46:=Tryz.underlying85
 a46:=Tryz.isAgg85
 z46:=Tryz.sizeOf85
 v46:=Tryz.zeroValue85
 t51:=Tryz.underlying48
 a51:=Tryz.isAgg48
 z51:=Tryz.sizeOf48
 v51:=Tryz.zeroValue48
 t53:=Tryz.underlying110
 a53:=Tryz.isAgg110
 z53:=Tryz.sizeOf110
 v53:=Tryz.zeroValue110
 t75:=Tryz.underlying88
 a75:=Tryz.isAgg88
 z75:=Tryz.sizeOf88
 v75:=Tryz.zeroValue88
 t85:=Tryz.underlying89
 a85:=Tryz.isAgg89
 z85:=Tryz.sizeOf89
 v85:=Tryz.zeroValue89
 t127:=Tryz.underlying125
 a127:=Tryz.isAgg125
 z127:=Tryz.sizeOf125
 v127:=Tryz.zeroValue125
 t143:=Tryz.underlying208
 a143:=Tryz.isAgg208
 z143:=Tryz.sizeOf208
 v143:=Tryz.zeroValue208
 t145:=Tryz.underlying210
 a145:=Tryz.isAgg210
 z145:=Tryz.sizeOf210
 v145:=Tryz.zeroValue210
 t167:=Tryz.underlying172
 a167:=Tryz.isAgg172
 z167:=Tryz.sizeOf172
 v167:=Tryz.zeroValue172
 t168:=Tryz.underlying175
 a168:=Tryz.isAgg175
 z168:=Tryz.sizeOf175
 v168:=Tryz.zeroValue175
 t171:=Tryz.underlying165
 a171:=Tryz.isAgg165
 z171:=Tryz.sizeOf165
 v171:=Tryz.zeroValue165
 t173:=Tryz.underlying168
 a173:=Tryz.isAgg168
 z173:=Tryz.sizeOf168
 v173:=Tryz.zeroValue168
 t175:=Tryz.underlying173
 a175:=Tryz.isAgg173
 z175:=Tryz.sizeOf173
 v175:=Tryz.zeroValue173
 t210:=Tryz.underlying200
 a210:=Tryz.isAgg200
 z210:=Tryz.sizeOf200
 v210:=Tryz.zeroValue200
 t212:=Tryz.underlying193
 a212:=Tryz.isAgg193
 z212:=Tryz.sizeOf193
 v212:=Tryz.zeroValue193
 t213:=Tryz.underlying194
 a213:=Tryz.isAgg194
 z213:=Tryz.sizeOf194
 t232:=Tryz.underlying224
 a232:=Tryz.isAgg224
 z232:=Tryz.sizeOf224
 v232:=Tryz.zeroValue224
 t233:=Tryz.underlying225
 a233:=Tryz.isAgg225
 z233:=Tryz.sizeOf225
 v233:=Tryz.zeroValue225
 g15:=by kernel_rfl
 g16:=by kernel_rfl
 g17:=by kernel_rfl
 g18:=by kernel_rfl
 g19:=by kernel_rfl
 t80:=Tryz.underlying83
 a80:=Tryz.isAgg83
 z80:=Tryz.sizeOf83
 v80:=Tryz.zeroValue83
 i0:=by kernel_rfl
 i2:=by kernel_rfl
 i3:=by kernel_rfl
 i4:=by kernel_rfl
 i5:=by kernel_rfl
 i9:=by kernel_rfl
 i20:=by kernel_rfl
 i21:=by kernel_rfl
 i37:=by kernel_rfl
 i46:=by kernel_rfl
 i51:=by kernel_rfl
 i53:=by kernel_rfl
 i75:=by kernel_rfl
 i80:=by kernel_rfl
 i85:=by kernel_rfl
 i127:=by kernel_rfl
 i143:=by kernel_rfl
 i145:=by kernel_rfl
 i167:=by kernel_rfl
 i168:=by kernel_rfl
 i171:=by kernel_rfl
 i173:=by kernel_rfl
 i175:=by kernel_rfl
 i210:=by kernel_rfl
 i212:=by kernel_rfl
 i232:=by kernel_rfl
 i233:=by kernel_rfl
 m15:=by kernel_rfl
 m16:=by kernel_rfl
 m17:=by kernel_rfl
 m18:=by kernel_rfl
 m19:=by kernel_rfl
 c0:=by kernel_rfl
 c2:=by kernel_rfl
 c3:=by kernel_rfl
 c4:=by kernel_rfl
 c5:=by kernel_rfl
 c9:=by kernel_rfl
 c20:=by kernel_rfl
 c21:=by kernel_rfl
 c37:=by kernel_rfl
 c46:=by kernel_rfl
 c51:=by kernel_rfl
 c53:=by kernel_rfl
 c75:=by kernel_rfl
 c80:=by kernel_rfl
 c85:=by kernel_rfl
 c127:=by kernel_rfl
 c143:=by kernel_rfl
 c145:=by kernel_rfl
 c167:=by kernel_rfl
 c168:=by kernel_rfl
 c171:=by kernel_rfl
 c173:=by kernel_rfl
 c175:=by kernel_rfl
 c210:=by kernel_rfl
 c212:=by kernel_rfl
 c213:=by kernel_rfl
 c232:=by kernel_rfl
 c233:=by kernel_rfl
def LX:Go.Shelf.Ren:=⟨fun | 101=>45 | 208=>82 | 206=>130 | n=>n,fun | 9=>9 | 4=>4 | 3=>3 | n=>n,fun | n=>n⟩
theorem tpL:Lays.n101 Tryz.prog LX where
 mixed:=by kernel_rfl
 f101:=Tryz.func45.trans (congrArg some (by kernel_rfl))
 f206:=Tryz.func130.trans (congrArg some (by kernel_rfl))
 f208:=Tryz.func82.trans (congrArg some (by kernel_rfl))
 t3:=Tryz.underlying3
 a3:=Tryz.isAgg3
 z3:=Tryz.sizeOf3
 v3:=Tryz.zeroValue3
 t4:=Tryz.underlying4
 a4:=Tryz.isAgg4
 z4:=Tryz.sizeOf4
 v4:=Tryz.zeroValue4
 t9:=Tryz.underlying9
 a9:=Tryz.isAgg9
 z9:=Tryz.sizeOf9
 v9:=Tryz.zeroValue9
end
section
open Go Go.RowKit Go.BigFrame Tryz
theorem JJ (s:By):(Cn s).length<=s.length:=by
 unfold Cn Lib.trimPrefix
 split<;>simp
def Pan (e:Ending):Prop:=∃ tp p,e=.panicked [{v:=.iface tp p,recovered:=false}]
theorem HY (s:ByteArray)(w:World)(hs:s.size<=100000)(hG:Glb w) :
  Calls prog 23 #[.string s] w fun e w'=>e=.returned (Dz (numP s.data.toList))∧Below w.heap.size w w':=by
 obtain⟨t,ht⟩:∃ t:ByteArray,Hid ((⟨(Cn s.data.toList).toArray⟩:ByteArray)=t):=⟨_,rfl⟩
 have hj:t.size=(Cn s.data.toList).length:=by rw[<-ht.out,Lib.size_eq]
 have hk:t.size<=100000:=by
  have h1:=JJ s.data.toList
  have h2:=Lib.size_eq s
  omega
 obtain⟨V,hV⟩:∃ V,Hid (Dz (numP s.data.toList)=V):=⟨_,rfl⟩
 rw[hV.out]
 have q1:Calls prog 45 #[.string s,.string ⟨#[45]⟩] w fun e w'=>e=.returned (.string t)∧w'=w:=by
  rw[<-ht.out]
  exact Any.strings_TrimPrefix tpL s ⟨#[45]⟩ w
 go_enter func23,ntmps23
 go_wp2_with fail
 refine q1.mono ?_
 rintro e w1 ⟨rfl,hg⟩
 obtain rfl:w=w1:=hg.symm
 clear q1
 rcases Nat.lt_or_ge 10 t.size with hh | hh
 ·have hv:V=.tuple #[.int .i64 0,.bool false]:=by rw[<-hV.out,GX (by omega)];rfl
  subst hv
  go_wp2
  go_returns
  exact⟨rfl,Yg _ _⟩
 ·have hc:=FK (s:=s.data.toList) (by omega)
  cases ha:Lib.atoi s.data.toList with
  |none=>
   have hv:V=.tuple #[.int .i64 0,.bool false]:=by rw[<-hV.out,H6 ha];rfl
   subst hv
   rw[ha] at hc
   obtain⟨tp,p,hy⟩:=hG.syn
   go_wp2_with fail
   refine (Any.strconv_ParseInt_10_at64_syntax piL s (by omega) hc (.iface tp p) w hy (.inr ⟨tp,p,rfl⟩)).mono ?_
   rintro e w1 ⟨N,rfl,_,_,hB⟩
   go_wp2
   go_returns
   exact⟨rfl,hB⟩
  |some n=>
   rw[ha] at hc
   have hb:=Lib.parseIntB_bounds hc
   rw[show (2 ^ (64-1):Nat)=9223372036854775808 by decide] at hb
   have q2:=fun (u:World) (hu:Below w.heap.size w u)=>Az n u (by omega) (by omega) (hG.below hu).tab
   clear hb
   go_wp2_with fail
   refine (Any.strconv_ParseInt_10_at64_ok piL s (by omega) n hc w).mono ?_
   rintro e w1 ⟨rfl,hg⟩
   have hB:Below w.heap.size w w1:=by
    rcases hg with rfl | ⟨t,rfl⟩
    ·exact Yg _ _
    ·exact Lib.bytesWorld_below _ _ _
   clear hg
   go_wp2_with fail
   refine (q2 w1 hB).mono ?_
   rintro e w2 ⟨rfl,hf⟩
   replace hf:=Aa hB hf
   by_cases hd:Lib.itoa n=s.data.toList
   ·have hv:V=.tuple #[.int .i64 n,.bool true]:=by rw[<-hV.out,GW (by omega) hd];rfl
    subst hv
    have he:(AF n).toList=s.toList:=by rw[Zu,Zu,Cb,hd]
    go_wp2
    go_returns
    exact⟨rfl,hf⟩
   ·have hv:V=.tuple #[.int .i64 0,.bool false]:=by rw[<-hV.out,Gp ha hd];rfl
    subst hv
    have he:((AF n).toList==s.toList)=false:=by rw[ZV,Zu,Zu,Cb];exact hd
    go_wp2
    go_returns
    exact⟨rfl,hf⟩
theorem As (s:ByteArray)(w:World)(hs:s.size<=100000)(hG:Glb w) :
  Calls prog 87 #[.string s] w fun e w'=>(match numP s.data.toList with
   |none=>Pan e
   |some n=>e=.returned (.int .i64 n))∧Below w.heap.size w w':=by
 have q1:=HY s w hs hG
 cases hn:numP s.data.toList with
 |none=>
  rw[hn] at q1
  go_enter func87,ntmps87
  go_wp2_with fail
  refine q1.mono ?_
  rintro e w1 ⟨rfl,hB⟩
  obtain⟨tp,p,hy⟩:=(hG.below hB).err
  unfold Dz
  go_wp2
  exact⟨rfl,⟨tp,p,rfl⟩,hB⟩
 |some n=>
  rw[hn] at q1
  go_enter func87,ntmps87
  go_wp2_with fail
  refine q1.mono ?_
  rintro e w1 ⟨rfl,hB⟩
  unfold Dz
  go_wp2
  go_returns
  exact⟨rfl,hB⟩
theorem Dp (s:ByteArray)(w:World)(hG:Glb w) :
  Calls prog 139 #[.string s] w fun e w'=>(match Cd s.data.toList with
   |none=>Pan e
   |some b=>e=.returned (.bool b))∧w'=w:=by
 obtain⟨tp,p,hy⟩:=hG.err
 by_cases h0:s.data.toList=[48]
 ·have hf:Cd s.data.toList=some false:=by rw[Cd,if_pos h0]
  rw[hf]
  have e0:s.toList=[48]:=by rw[Zu,h0]
  clear hf h0
  go_enter func139,ntmps139
  go_wp2
  go_returns
  exact⟨rfl,rfl⟩
 ·by_cases h1:s.data.toList=[49]
  ·have hf:Cd s.data.toList=some true:=by rw[Cd,if_neg h0,if_pos h1]
   rw[hf]
   have e0:s.toList=[49]:=by rw[Zu,h1]
   clear hf h0 h1
   go_enter func139,ntmps139
   go_wp2
   go_returns
   exact⟨rfl,rfl⟩
  ·have hf:Cd s.data.toList=none:=by rw[Cd,if_neg h0,if_neg h1]
   rw[hf]
   have e0:(s.toList==[48])=false:=by rw[ZV,Zu];exact h0
   have e1:(s.toList==[49])=false:=by rw[ZV,Zu];exact h1
   clear hf h0 h1
   go_enter func139,ntmps139
   go_wp2
   exact⟨rfl,⟨tp,p,rfl⟩,rfl⟩
end
section
open Go Tryz
theorem Dy (c:UInt8):∀ l:By,Lib.index l [c]=match cutB c l with
  |none=>-1
  |some q=>(q.1.length:Int)
 |[]=>rfl
 |x::l=>by
  rw[Lib.index,cutB,Dy c l]
  by_cases h:x=c
  ·subst h;simp
  ·have h2:¬ c=x:=fun e=>h e.symm
   rw[if_neg (by simp[h2]),if_neg h]
   cases hc:cutB c l with
   |none=>simp
   |some q=>
    simp only[Option.map_some,Zw]
    rw[if_neg (by first | (simp;done) | (simp;omega))]
    simp
def Dq (c:UInt8):Nat->By->List By
 |0,l=>[l]
 |k+1,l=>match cutB c l with
  |none=>[l]
  |some q=>q.1::Dq c k q.2
theorem Iu:∀ (k:Nat) (l:By),Dq 32 k l=A0 k l
 |0,l=>rfl
 |k+1,l=>by
  rw[Dq,A0]
  cases cutB 32 l with
  |none=>rfl
  |some q=>simp only;rw[Iu k q.2]
theorem DV (c:UInt8):∀ (k:Nat) (l:By),Lib.splitK [c] 0 k l=Dq c k l
 |0,l=>rfl
 |k+1,l=>by
  rw[Lib.splitK,Dq,Dy c l]
  cases hc:cutB c l with
  |none=>simp
  |some q=>
   obtain⟨h1,_⟩:=A4 (a:=q.1) (b:=q.2) hc
   simp only
   rw[if_neg (by first | (simp;done) | (simp;omega)),DV c k]
   have e1:l.take ((q.1.length:Int).toNat+0)=q.1:=by rw[h1];simp
   have e2:l.drop ((q.1.length:Int).toNat+[c].length)=q.2:=by
    rw[h1]
    have:(q.1.length:Int).toNat+[c].length=(q.1++[c]).length:=by simp
    rw[this,show q.1++c::q.2=(q.1++[c])++q.2 by simp,List.drop_left]
   rw[e1,e2]
theorem Dv {c:UInt8}{l:By}{q:By×By}(h:cutB c l=some q):q.2.length<l.length:=by
 obtain⟨h1,_⟩:=A4 (a:=q.1) (b:=q.2) h
 rw[h1];simp;omega
theorem GZ (c:UInt8):∀ (n k k':Nat) (l:By),l.length<=n->l.length<=k->l.length<=k'->Dq c k l=Dq c k' l
 |0,k,k',l,h,_,_=>by
  obtain rfl:=Zt (Nat.le_zero.1 h)
  cases k<;>cases k'<;>rfl
 |n+1,k,k',l,h,h1,h2=>by
  cases hc:cutB c l with
  |none=>
   have:∀ k,Dq c k l=[l]:=fun k=>by
    cases k with
    |zero=>rfl
    |succ k=>rw[Dq,hc]
   rw[this,this]
  |some q=>
   have:=Dv hc
   obtain⟨k,rfl⟩:∃ j,k=j+1:=⟨k-1,by omega⟩
   obtain⟨k',rfl⟩:∃ j,k'=j+1:=⟨k'-1,by omega⟩
   rw[Dq,Dq,hc]
   simp only
   rw[GZ c n k k' q.2 (by omega) (by omega) (by omega)]
theorem G1 (c:UInt8):∀ (n:Nat) (l:By),l.length<=n->Lib.splitK [c] 0 (Lib.count l [c]) l=Dq c n l
 |0,l,h=>by
  obtain rfl:=Zt (Nat.le_zero.1 h)
  rfl
 |n+1,l,h=>by
  rw[Dq]
  cases hc:cutB c l with
  |none=>rw[Lib.count_miss (by rw[Dy,hc])];rfl
  |some q=>
   have hi:=Dy c l
   rw[hc] at hi
   obtain⟨h1,_⟩:=A4 (a:=q.1) (b:=q.2) hc
   have e2:l.drop (q.1.length+[c].length)=q.2:=by
    rw[h1]
    have:q.1.length+[c].length=(q.1++[c]).length:=by simp
    rw[this,show q.1++c::q.2=(q.1++[c])++q.2 by simp,List.drop_left]
   rw[Lib.count_hit (by simp) hi,e2,Nat.add_comm,DV,Dq,hc]
   simp only
   rw[<-DV,G1 c n q.2 (by have:=Dv hc;omega)]
theorem GV:∀ (k:Nat) (l:By),l.length<=k->(∀ ls,lnsB k l=some ls->Dq 10 k l=ls++[[]])∧(lnsB k l=none->∃ a x,Dq 10 k l=a++[x]∧x≠[])
 |0,l,h=>by
  obtain rfl:=Zt (Nat.le_zero.1 h)
  exact⟨fun ls h=>by obtain rfl:=Zi h;rfl,fun h=>by cases h⟩
 |k+1,l,h=>by
  by_cases hl:l=[]
  ·subst hl
   exact⟨fun ls h=>by obtain rfl:=Zi h;rfl,fun h=>by cases h⟩
  ·rw[lnsB,if_neg hl,Dq]
   cases hc:cutB 10 l with
   |none=>exact⟨fun ls h=>(by cases h),fun _=>⟨[],l,rfl,hl⟩⟩
   |some q=>
    have:=Dv hc
    obtain⟨h1,h2⟩:=GV k q.2 (by omega)
    simp only
    cases hr:lnsB k q.2 with
    |none=>
     obtain⟨a,x,e,hx⟩:=h2 hr
     exact⟨fun ls h=>(by cases h),fun _=>⟨q.1::a,x,by rw[e];rfl,hx⟩⟩
    |some r=>
     exact⟨fun ls h=>by obtain rfl:=Zi h;rw[h1 r hr];rfl,fun h=>by cases h⟩
theorem KS {l:List ByteArray}{m:List By}(h:l.map (·.data.toList)=m):l=m.map bA:=by
 subst h
 rw[List.map_map]
 have:(bA ∘ fun x:ByteArray=>x.data.toList)=id:=by funext x;exact Cy x
 rw[this,List.map_id]
theorem HC (s:ByteArray)(k:Nat):Lib.splitB ⟨#[32]⟩ 0 (min k s.size) s=(A0 k s.data.toList).map bA:=by
 refine KS ?_
 rw[Lib.splitB_data]
 show Lib.splitK [32] 0 _ _=_
 rw[DV,<-Iu]
 have hs:s.size=s.data.toList.length:=by first | (simp;done) | (simp;rfl)
 by_cases hk:k<=s.size
 ·rw[ZZ hk]
 ·rw[Nat.min_eq_right (by omega)]
  exact GZ 32 _ _ _ _ (Zd _) (by omega) (by omega)
theorem HB (s:ByteArray):Lib.splitB ⟨#[10]⟩ 0 (Lib.countB s ⟨#[10]⟩) s=(Dq 10 s.data.toList.length s.data.toList).map bA:=by
 refine KS ?_
 rw[Lib.splitB_data]
 exact G1 10 _ _ (Zd _)
end
section
open Go.Shelf Go.RowKit Go.Lib Tryz
def LL:Go.Shelf.Ren:=⟨fun | 99=>138 | 206=>130 | n=>n,fun | 9=>9 | 4=>4 | 3=>3 | n=>n,fun | n=>n⟩
theorem hpL:Lays.n99 Tryz.prog LL where
 mixed:=by kernel_rfl
 f99:=Tryz.func138.trans (congrArg some (by kernel_rfl))
 f206:=Tryz.func130.trans (congrArg some (by kernel_rfl))
 t3:=Tryz.underlying3
 a3:=Tryz.isAgg3
 z3:=Tryz.sizeOf3
 v3:=Tryz.zeroValue3
 t4:=Tryz.underlying4
 a4:=Tryz.isAgg4
 z4:=Tryz.sizeOf4
 v4:=Tryz.zeroValue4
 t9:=Tryz.underlying9
 a9:=Tryz.isAgg9
 z9:=Tryz.sizeOf9
 v9:=Tryz.zeroValue9
def LU:Go.Shelf.Ren:=⟨fun | 147=>137 | 221=>136 | 268=>167 | 138=>168 | 143=>169 | 195=>181 | 197=>182 | 218=>183 | 219=>81 | 260=>197 | 217=>126 | 225=>127 | 224=>128 | 267=>129 | 266=>160 | 314=>161 | n=>n,fun | 9=>9 | 3=>3 | 31=>94 | 4=>4 | 0=>0 | 105=>212 | 21=>21 | 5=>5 | 46=>85 | 119=>231 | 139=>234 | 138=>233 | 146=>196 | 51=>48 | n=>n,fun | 1=>1 | 3=>7 | 4=>8 | n=>n⟩
theorem snL:Lays.n147 Tryz.prog LU where
 mixed:=by kernel_rfl
 f138:=Tryz.func168.trans (congrArg some (by kernel_rfl))
 f143:=Tryz.func169.trans (congrArg some (by kernel_rfl))
 f147:=Tryz.func137.trans (congrArg some (by kernel_rfl))
 f195:=Tryz.func181.trans (congrArg some (by kernel_rfl))
 f197:=Tryz.func182.trans (congrArg some (by kernel_rfl))
 f217:=Tryz.func126.trans (congrArg some (by kernel_rfl))
 f218:=Tryz.func183.trans (congrArg some (by kernel_rfl))
 f219:=Tryz.func81.trans (congrArg some (by kernel_rfl))
 f221:=Tryz.func136.trans (congrArg some (by kernel_rfl))
 f224:=Tryz.func128.trans (congrArg some (by kernel_rfl))
 f225:=Tryz.func127.trans (congrArg some (by kernel_rfl))
 f260:=Tryz.func197.trans (congrArg some (by kernel_rfl))
 f266:=Tryz.func160.trans (congrArg some (by kernel_rfl))
 f267:=Tryz.func129.trans (congrArg some (by kernel_rfl))
 f268:=Tryz.func167.trans (congrArg some (by kernel_rfl))
 f314:=Tryz.func161.trans (congrArg some (by kernel_rfl))
 t0:=Tryz.underlying0
 a0:=Tryz.isAgg0
 z0:=Tryz.sizeOf0
 v0:=Tryz.zeroValue0
 t3:=Tryz.underlying3
 a3:=Tryz.isAgg3
 z3:=Tryz.sizeOf3
 v3:=Tryz.zeroValue3
 t4:=Tryz.underlying4
 a4:=Tryz.isAgg4
 z4:=Tryz.sizeOf4
 v4:=Tryz.zeroValue4
 t5:=Tryz.underlying5
 a5:=Tryz.isAgg5
 z5:=Tryz.sizeOf5
 v5:=Tryz.zeroValue5
 t9:=Tryz.underlying9
 a9:=Tryz.isAgg9
 z9:=Tryz.sizeOf9
 v9:=Tryz.zeroValue9
 t21:=Tryz.underlying21
 a21:=Tryz.isAgg21
 z21:=Tryz.sizeOf21
 v21:=Tryz.zeroValue21
 t31:=Tryz.underlying94
 a31:=Tryz.isAgg94
 z31:=Tryz.sizeOf94
 v31:=Tryz.zeroValue94
 t46:=Tryz.underlying85
 a46:=Tryz.isAgg85
 z46:=Tryz.sizeOf85
 v46:=Tryz.zeroValue85
 t51:=Tryz.underlying48
 a51:=Tryz.isAgg48
 z51:=Tryz.sizeOf48
 v51:=Tryz.zeroValue48
 t105:=Tryz.underlying212
 a105:=Tryz.isAgg212
 z105:=Tryz.sizeOf212
 v105:=Tryz.zeroValue212
 t119:=Tryz.underlying231
 a119:=Tryz.isAgg231
 z119:=Tryz.sizeOf231
 t138:=Tryz.underlying233
 a138:=Tryz.isAgg233
 z138:=Tryz.sizeOf233
 v138:=Tryz.zeroValue233
 t139:=Tryz.underlying234
 a139:=Tryz.isAgg234
 z139:=Tryz.sizeOf234
 v139:=Tryz.zeroValue234
 t146:=Tryz.underlying196
 a146:=Tryz.isAgg196
 z146:=Tryz.sizeOf196
 v146:=Tryz.zeroValue196
 g1:=by kernel_rfl
 g3:=by kernel_rfl
 g4:=by kernel_rfl
end
section
open Go Go.RowKit Go.BigFrame Tryz
theorem JE {ls:List By}{i:Nat}{l:By}(h:ls[i]?=some l):(IS ls)[i]?=some (.string (bA l)):=by simp[IS,h]
def ahL (wd:By):List By->Bool
 |[]=>false
 |l::_=>ahP wd l
theorem A5 {w a b:World}{rb:Nat}{row:Option Nat}(h:w.grownBy a (some rb))(h':a.grownBy b row)(hr:∀ k,row=some k->w.heap.size<=k∨k=rb):w.grownBy b (some rb):=by
 obtain⟨o1,t1,p1,s1,b1⟩:=h
 obtain⟨o2,t2,p2,s2,b2⟩:=h'
 refine ⟨o2.trans o1,t2.trans t1,p2.trans p1,Zl s1 s2,fun k hk ha=>?_⟩
 rw[b2 k (Zy hk s1) (fun e=>by rcases hr k e.symm with q | q;omega;exact ha (by rw[q])),b1 k hk ha]
theorem Bv {w a b:World}{rb:Nat}(h:w.grownBy a (some rb))(h':Below a.heap.size a b):w.grownBy b (some rb):=
 A5 (row:=none) h ⟨h'.os,h'.tape,h'.output,h'.size,fun k hk _=>h'.block k hk⟩ (fun k e=>by cases e)
theorem Cq (rb:Nat)(ls:List By)(wd:ByteArray)(w:World)(h:CK w rb ls)(hwd:wd.size<=100) :
  Calls prog 88 #[.pointer (some ⟨rb,0,none⟩),.string wd] w fun e w'=>e=.returned (.bool (ahL wd.data.toList ls))∧w'=w:=by
 obtain⟨lb,o,lc,c,h1,h2,h3,h4,h5,h6⟩:=h.out
 have c0:=h1.cell 0
 cases ls with
 |nil=>
  simp only[YK] at c0
  go_enter func88,ntmps88
  go_wp2
  go_returns
  exact⟨rfl,rfl⟩
 |cons l r=>
  have c1:w.cell? ⟨lb,o,none⟩=some (.string (bA l)):=by
   rw[h2.cell]
   have:=JE (ls:=l::r) (i:=0) rfl
   rw[<-h3] at this
   simpa using this
  obtain⟨V,hV⟩:∃ V,Hid (ahL wd.data.toList (l::r)=V):=⟨_,rfl⟩
  rw[hV.out]
  have q:=Any.strings_HasPrefix hpL (bA l) (wd++⟨#[32]⟩) w
  have e:Lib.hasPrefix (bA l).data.toList (wd++⟨#[32]⟩:ByteArray).data.toList=V:=by
   rw[<-hV.out]
   simp[ahL,ahP,Lib.hasPrefix,Af]
  rw[e] at q
  clear e
  have hn:(0:Int)<((l::r).length:Nat):=by simp only[Zw];omega
  generalize (l::r).length=n at *
  go_enter func88,ntmps88
  go_wp2_with fail
  refine q.mono ?_
  rintro e w1 ⟨rfl,rfl⟩
  go_wp2
  go_returns
  exact⟨rfl,rfl⟩
theorem BT {w w':World}{row:Option Nat}(h:Below w.heap.size w w'):w.grownBy w' row:=⟨h.os,h.tape,h.output,h.size,fun k hk _=>h.block k hk⟩
def Ck (wd:By)(k:Nat):List By->Option (List By×List By)
 |[]=>none
 |l::r=>if ahP wd l=true then (if (A0 k l).length=k+1 then some ((A0 k l).tail,r) else none) else none
theorem Iw:∀ (k:Nat) (l:By),(A0 k l).length<=k+1∧(A0 k l).length<=l.length+1
 |0,l=>by simp[A0]
 |k+1,l=>by
  rw[A0]
  cases hc:cutB 32 l with
  |none=>simp
  |some q=>
   have h1:=Iw k q.2
   have h2:=Dv hc
   simp only[Zw]
   omega
theorem Md:(prog.info? 9).map (fun i=>(i.zero,i.size,i.bytes))=some (some (.string ByteArray.empty),1,16):=by kernel_rfl
theorem IB {ws:List ByteArray}{N i:Nat}{x:ByteArray}(h:ws[i]?=some x):(Lib.cellsOf ws N)[i]?=some (.string x):=by
 have hi:i<ws.length:=(Zb.1 h).1
 unfold Lib.cellsOf
 rw[Yp,ZD (by simpa using hi)]
 simp[h]
theorem CZ (rb:Nat)(ls:List By)(wd:ByteArray)(k:Nat)(w:World)(h:CK w rb ls)(hG:Glb w)(hrb:9<=rb)(hwd:wd.size<=100)(hk1:1<=k)(hk:k<=4) :
  Calls prog 86 #[.pointer (some ⟨rb,0,none⟩),.string wd,.int .i64 k] w fun e w'=>(match Ck wd.data.toList k ls with
   |none=>Pan e
   |some q=>∃ wb wc,e=.returned (.slice (some ⟨wb,1,none⟩) k wc)∧q.1.length=k∧(∀ i x,q.1[i]?=some x->w'.cell? ⟨wb,i+1,none⟩=some (.string (bA x))∧(bA x).size<=60000)∧k<=wc∧wc<=100001∧(∃ c,Blk w' wb c 9)∧CK w' rb q.2)∧w.grownBy w' (some rb):=by
 have hA:=Cq rb ls wd w h hwd
 obtain⟨lb,o,lc,c,h1,h2,h3,h4,h5,h6⟩:=h.out
 obtain⟨tp,pe,hE⟩:=hG.err
 cases ha:ahL wd.data.toList ls with
 |false=>
  have ht:Ck wd.data.toList k ls=none:=by
   cases ls with
   |nil=>rfl
   |cons l r=>
    change ahP _ l=_ at ha
    show (if ahP wd.data.toList l=true then _ else none)=_
    rw[ha];rfl
  rw[ht]
  rw[ha] at hA
  go_enter func86,ntmps86
  go_wp2_with fail
  refine hA.mono ?_
  rintro e w1 ⟨rfl,rfl⟩
  go_wp2
  exact⟨rfl,⟨tp,pe,rfl⟩,Yh _ _⟩
 |true=>
  rw[ha] at hA
  cases ls with
  |nil=>cases ha
  |cons l r=>
   change ahP _ l=_ at ha
   have c0:=h1.cell 0
   have f0:=h1.frozen 0
   simp only[Zw] at c0 h4 h3
   have c1:w.cell? ⟨lb,o,none⟩=some (.string (bA l)):=by
    rw[h2.cell]
    have:=JE (ls:=l::r) (i:=0) rfl
    rw[<-h3] at this
    simpa using this
   obtain⟨m,hm⟩:=hG.mx
   have hu:(bA l).size<=60000:=by rw[Lib.size_eq,Af];exact h6 l (by simp)
   have q:=Any.strings_SplitN snL Md (bA l) ⟨#[32]⟩ (k+1) m w (by omega) hm (by decide) (by omega) (by omega)
   have hw:Lib.splitB ⟨#[32]⟩ 0 (min (k+1) ((bA l).size+1)-1) (bA l)=(A0 k l).map bA:=by
    rw[show min (k+1) ((bA l).size+1)-1=min k (bA l).size by omega,HC,Af]
   rw[hw] at q
   obtain⟨ws,he⟩:∃ ws,Hid (A0 k l=ws):=⟨_,rfl⟩
   rw[he.out] at q
   obtain⟨cp,hf⟩:∃ cp,Hid (min (k+1) ((bA l).size+1)=cp):=⟨_,rfl⟩
   rw[hf.out,List.length_map,show ((k+1:Nat):Int)=1+(k:Int) by omega] at q
   have hh:cp<=60001:=by rw[<-hf.out];omega
   have ho:Hid (∀ x∈ws,(bA x).size<=60000):=fun x hx=>by
    rw[<-he.out] at hx
    have h1:=C0 x hx
    rw[Lib.size_eq,Af]
    have h2:(bA l).size=l.length:=by rw[Lib.size_eq,Af]
    omega
   have hz:ws.length<=cp:=by
    have h1:=Iw k l
    have h2:(bA l).size=l.length:=by rw[Lib.size_eq,Af]
    rw[he.out] at h1
    rw[<-hf.out]
    omega
   have ht:Hid (Ck wd.data.toList k (l::r)=if ws.length=k+1 then some (ws.tail,r) else none):=by
    show (if ahP wd.data.toList l=true then _ else none)=_
    rw[if_pos ha,he.out]
   obtain⟨lc',rfl⟩:∃ x,lc=x+1:=⟨lc-1,by omega⟩
   by_cases hn:ws.length=k+1
   ·rw[ht.out,if_pos hn]
    rw[hn] at q
    have hq:k+1<=cp:=by omega
    clear ht he hf
    go_enter func86,ntmps86
    go_wp2_with fail
    refine hA.mono ?_
    rintro e w1 ⟨rfl,hb⟩
    obtain rfl:w=w1:=hb.symm
    go_wp2_with fail
    refine q.mono ?_
    rintro e w1 ⟨rfl,hb⟩
    have hc:Below w.heap.size w w1:=by rw[hb];go_grown
    have WB:Blk w1 w.heap.size (Lib.cellsOf (ws.map bA) cp) 9:=by rw[hb];exact Blk.new _ _ _
    clear hb q hA hw
    replace c0:=Ab hc c0
    have f1:w1.frozen? ⟨rb,0,none⟩=false:=(h1.below hc).frozen 0
    replace hE:=Ab hc hE
    obtain⟨cp',rfl⟩:∃ x,cp=x+1:=⟨cp-1,by omega⟩
    have hs:¬ lc'=0:=by omega
    have hp:¬ cp'=0:=by omega
    have hr:((k:Int)+1==1+(k:Int))=true:=by rw[beq_iff_eq];omega
    go_wp2
    have hg:w.grownBy (w1.setCell ⟨rb,0,none⟩ (.slice (some ⟨lb,o+1,none⟩) r.length lc')) (some rb):=A5 (BT hc) (af_ (Yh _ _) _ _) (fun j e=>by cases e;exact .inr rfl)
    have hl:w.heap.size≠rb:=by have:=h1.lt;omega
    have hj:lb≠rb:=fun e=>by
     subst e
     have:=h1.symm.trans h2
     simp at this
     exact absurd this.2 (by decide)
    have RB:Blk (w1.setCell ⟨rb,0,none⟩ (.slice (some ⟨lb,o+1,none⟩) r.length lc')) rb #[.slice (some ⟨lb,o+1,none⟩) r.length lc'] tRd:=by simpa using (h1.below hc).set 0 (.slice (some ⟨lb,o+1,none⟩) r.length lc')
    have LB:=h2.grown hg (by simpa using hj)
    have WB2:=WB.grown (af_ (Yh _ _) _ _:w1.grownBy (w1.setCell ⟨rb,0,none⟩ (.slice (some ⟨lb,o+1,none⟩) r.length lc')) (some rb)) (by simpa using hl)
    generalize w1.setCell ⟨rb,0,none⟩ (.slice (some ⟨lb,o+1,none⟩) r.length lc')=W2 at *
    go_returns
    refine ⟨⟨w.heap.size,cp',rfl,by simp[hn],fun i x hx=>⟨?_,?_⟩,by omega,by omega,⟨_,WB2⟩,⟨lb,o+1,lc',c,RB,LB,?_,by omega,by omega,fun y hy=>h6 y (by simp[hy])⟩⟩,hg⟩
    ·rw[WB2.cell]
     refine IB ?_
     simp at hx
     simp[hx]
    ·exact ho.out x (List.mem_of_mem_tail (Zc hx))
    ·have h7:=congrArg List.tail h3
     simp only[IS,YD,List.tail_cons] at h7
     rw[IS,<-h7]
     cases hd:List.drop o c.toList with
     |nil=>rw[hd] at h3;simp[IS] at h3
     |cons y z=>rw[<-List.drop_drop,hd];simp
   ·rw[ht.out,if_neg hn]
    have hv:((ws.length:Int)==1+(k:Int))=false:=by rw[ZV];omega
    go_enter func86,ntmps86
    go_wp2_with fail
    refine hA.mono ?_
    rintro e w1 ⟨rfl,hb⟩
    obtain rfl:w=w1:=hb.symm
    go_wp2_with fail
    refine q.mono ?_
    rintro e w1 ⟨rfl,hb⟩
    have hc:Below w.heap.size w w1:=by rw[hb];go_grown
    have WB:Blk w1 w.heap.size (Lib.cellsOf (ws.map bA) cp) 9:=by rw[hb];exact Blk.new _ _ _
    clear hb q hA hw
    replace c0:=Ab hc c0
    have f1:w1.frozen? ⟨rb,0,none⟩=false:=(h1.below hc).frozen 0
    replace hE:=Ab hc hE
    go_wp2
    exact⟨rfl,⟨tp,pe,rfl⟩,BT hc⟩
end
section
open Go.Shelf Go.RowKit Go.Lib Tryz
def LV:Go.Shelf.Ren:=⟨fun | 146=>85 | 221=>136 | 268=>167 | 138=>168 | 143=>169 | 195=>181 | 197=>182 | 218=>183 | 219=>81 | 260=>197 | 217=>126 | 225=>127 | 224=>128 | 267=>129 | 266=>160 | 314=>161 | n=>n,fun | 9=>9 | 31=>94 | 3=>3 | 4=>4 | 0=>0 | 105=>212 | 21=>21 | 5=>5 | 46=>85 | 119=>231 | 139=>234 | 138=>233 | 146=>196 | 51=>48 | n=>n,fun | 1=>1 | 3=>7 | 4=>8 | n=>n⟩
theorem spL:Lays.n146 Tryz.prog LV where
 mixed:=by kernel_rfl
 f138:=Tryz.func168.trans (congrArg some (by kernel_rfl))
 f143:=Tryz.func169.trans (congrArg some (by kernel_rfl))
 f146:=Tryz.func85.trans (congrArg some (by kernel_rfl))
 f195:=Tryz.func181.trans (congrArg some (by kernel_rfl))
 f197:=Tryz.func182.trans (congrArg some (by kernel_rfl))
 f217:=Tryz.func126.trans (congrArg some (by kernel_rfl))
 f218:=Tryz.func183.trans (congrArg some (by kernel_rfl))
 f219:=Tryz.func81.trans (congrArg some (by kernel_rfl))
 f221:=Tryz.func136.trans (congrArg some (by kernel_rfl))
 f224:=Tryz.func128.trans (congrArg some (by kernel_rfl))
 f225:=Tryz.func127.trans (congrArg some (by kernel_rfl))
 f260:=Tryz.func197.trans (congrArg some (by kernel_rfl))
 f266:=Tryz.func160.trans (congrArg some (by kernel_rfl))
 f267:=Tryz.func129.trans (congrArg some (by kernel_rfl))
 f268:=Tryz.func167.trans (congrArg some (by kernel_rfl))
 f314:=Tryz.func161.trans (congrArg some (by kernel_rfl))
 t0:=Tryz.underlying0
 a0:=Tryz.isAgg0
 z0:=Tryz.sizeOf0
 v0:=Tryz.zeroValue0
 t3:=Tryz.underlying3
 a3:=Tryz.isAgg3
 z3:=Tryz.sizeOf3
 v3:=Tryz.zeroValue3
 t4:=Tryz.underlying4
 a4:=Tryz.isAgg4
 z4:=Tryz.sizeOf4
 v4:=Tryz.zeroValue4
 t5:=Tryz.underlying5
 a5:=Tryz.isAgg5
 z5:=Tryz.sizeOf5
 v5:=Tryz.zeroValue5
 t9:=Tryz.underlying9
 a9:=Tryz.isAgg9
 z9:=Tryz.sizeOf9
 v9:=Tryz.zeroValue9
 t21:=Tryz.underlying21
 a21:=Tryz.isAgg21
 z21:=Tryz.sizeOf21
 v21:=Tryz.zeroValue21
 t31:=Tryz.underlying94
 a31:=Tryz.isAgg94
 z31:=Tryz.sizeOf94
 v31:=Tryz.zeroValue94
 t46:=Tryz.underlying85
 a46:=Tryz.isAgg85
 z46:=Tryz.sizeOf85
 v46:=Tryz.zeroValue85
 t51:=Tryz.underlying48
 a51:=Tryz.isAgg48
 z51:=Tryz.sizeOf48
 v51:=Tryz.zeroValue48
 t105:=Tryz.underlying212
 a105:=Tryz.isAgg212
 z105:=Tryz.sizeOf212
 v105:=Tryz.zeroValue212
 t119:=Tryz.underlying231
 a119:=Tryz.isAgg231
 z119:=Tryz.sizeOf231
 t138:=Tryz.underlying233
 a138:=Tryz.isAgg233
 z138:=Tryz.sizeOf233
 v138:=Tryz.zeroValue233
 t139:=Tryz.underlying234
 a139:=Tryz.isAgg234
 z139:=Tryz.sizeOf234
 v139:=Tryz.zeroValue234
 t146:=Tryz.underlying196
 a146:=Tryz.isAgg196
 z146:=Tryz.sizeOf196
 v146:=Tryz.zeroValue196
 g1:=by kernel_rfl
 g3:=by kernel_rfl
 g4:=by kernel_rfl
end
section
open Go Go.RowKit Go.BigFrame Tryz
theorem FY:∀ {ls:List By} {l:By},l∈ls->l.length+1<=(Db ls).length
 |a::ls,l,h=>by
  rw[CY]
  rcases Zn.1 h with rfl | h
  ·simp
  ·have:=FY h
   simp;omega
theorem FX:∀ (ls:List By),ls.length<=(Db ls).length
 |[]=>Zg _
 |a::ls=>by
  rw[CY]
  have:=FX ls
  simp;omega
theorem Dx {α β:Type}{f:α->List β}:∀ {l:List α} {x:α},x∈l->(f x).length<=(l.flatMap f).length
 |a::l,x,h=>by
  rcases Zn.1 h with rfl | h
  ·simp
  ·have:=Dx (f:=f) h
   simp at this ⊢;omega
theorem El {α β:Type}{f:α->List β}:∀ (l:List α),(∀ x∈l,1<=(f x).length)->l.length<=(l.flatMap f).length
 |[],_=>Zg _
 |a::l,h=>by
  have h1:=h a (by simp)
  have h2:=El l (fun x hx=>h x (by simp[hx]))
  simp at h2 ⊢;omega
theorem De:∀ {l:List By} {x:By},x∈l->x.length<=(joW l).length
 |[a],x,h=>by simp at h;subst h;exact Zd _
 |a::b::l,x,h=>by
  show _<=(a++32::joW (b::l)).length
  rcases Zn.1 h with rfl | h
  ·simp
  ·have:=De h
   simp;omega
theorem KB {p:Po}(h:(AO p).length<=60000):AJ p:=by
 rw[DY] at h
 have hc:=FX (Ch p)
 have hm:∀ l∈Ch p,l.length<=60000:=fun l hl=>by have:=FY hl;omega
 have hL:(Ch p).length<=60000:=by omega
 have hf:(p.vs.flatMap Bt).length<=60000:=by
  have e:Ch p=joW [BA,Lib.itoa p.size,Lib.itoa p.next]::(p.ex.map DM++(p.vs.flatMap Bt++(p.rf.map (Bu B7)++p.lt.map (Bu Bj)))):=by simp[Ch]
  rw[e] at hL
  simp only[Zw,ZE] at hL
  omega
 have e:Ch p=joW [BA,Lib.itoa p.size,Lib.itoa p.next]::(p.ex.map DM++(p.vs.flatMap Bt++(p.rf.map (Bu B7)++p.lt.map (Bu Bj)))):=by simp[Ch]
 have hb:=hL
 rw[e] at hb
 simp only[Zw,ZE,List.length_map] at hb
 have hw:∀ (x:ByteArray) (l:By),l∈Ch p->x.data.toList.length<=l.length->x.size<=9223372036854775807:=fun x l hl hx=>by
  have:=hm l hl
  rw[Lib.size_eq]
  omega
 have he:∀ v∈p.vs,∀ l∈Bt v,l∈Ch p:=fun v hv l hl=>by
  rw[e]
  simp only[Zn,Zs,ZL]
  exact .inr (.inr (.inl ⟨v,hv,hl⟩))
 refine ⟨by omega,fun x hx=>?_,?_,fun v hv=>⟨?_,?_,fun x hx=>⟨?_,?_⟩⟩,by omega,fun c ha=>?_,by omega,fun c ha=>?_⟩
 ·exact hw _ (DM x) (by rw[e];simp only[Zn,Zs,ZT];exact .inr (.inl ⟨x,hx,rfl⟩)) (De (l:=[exK,Lib.itoa x.a,x.d.data.toList]) (by simp))
 ·have:=El (f:=Bt) p.vs (fun v _=>by simp[Bt])
  omega
 ·exact hw _ (joW [Cl,Lib.itoa v.id,v.nm.data.toList,Dm v.fx]) (he v hv _ (by simp[Bt])) (De (by simp))
 ·have h1:=Dx (f:=Bt) hv
  have h2:=El (f:=BX) v.its (fun x _=>by simp[BX])
  have h3:(Bt v).length=1+(v.its.flatMap BX).length:=by simp[Bt];omega
  omega
 ·exact hw _ (joW [Bz,x.nm.data.toList]) (he v hv _ (by simp only[Bt,Zn,ZL];exact .inr ⟨x,hx,by simp[BX]⟩)) (De (by simp))
 ·have h1:=Dx (f:=Bt) hv
  have h2:=Dx (f:=BX) hx
  have h3:(Bt v).length=1+(v.its.flatMap BX).length:=by simp[Bt];omega
  have h4:(BX x).length=1+x.ps.length:=by simp[BX];omega
  omega
 ·exact hw _ (Bu B7 c) (by rw[e];simp only[Zn,Zs,ZT];exact .inr (.inr (.inr (.inl ⟨c,ha,rfl⟩)))) (De (l:=[B7,Lib.itoa c.o.a,Lib.itoa c.o.v,c.o.f.data.toList,Lib.itoa c.n]) (by simp))
 ·exact hw _ (Bu Bj c) (by rw[e];simp only[Zn,Zs,ZT];exact .inr (.inr (.inr (.inr ⟨c,ha,rfl⟩)))) (De (l:=[Bj,Lib.itoa c.o.a,Lib.itoa c.o.v,c.o.f.data.toList,Lib.itoa c.n]) (by simp))
theorem Is (c:UInt8):∀ (k:Nat) (l:By),(Dq c k l).length<=l.length+1
 |0,l=>by simp[Dq]
 |k+1,l=>by
  rw[Dq]
  cases hc:cutB c l with
  |none=>simp
  |some q=>
   have h1:=Is c k q.2
   have h2:=Dv hc
   simp only[Zw]
   omega
theorem GF (s:ByteArray)(w:World)(hs:s.size<=60000)(hG:Glb w) :
  Calls prog 48 #[.string s] w fun e w'=>(match lnsB s.data.toList.length s.data.toList with
   |none=>Pan e
   |some ls=>∃ rb,e=.returned (.pointer (some ⟨rb,0,none⟩))∧w.heap.size<=rb∧CK w' rb ls∧ls.length<=60000)∧Below w.heap.size w w':=by
 obtain⟨m,hm⟩:=hG.mx
 have q:=Any.strings_Split spL Md s ⟨#[10]⟩ m w (by omega) hm (by decide)
 have he:=Lib.splitB_all ⟨#[10]⟩ (by decide) 0 _ s rfl
 rw[<-he,HB,List.length_map] at q
 clear he
 obtain⟨hg,hh⟩:=GV s.data.toList.length s.data.toList (Zd _)
 cases hL:lnsB s.data.toList.length s.data.toList with
 |none=>
  obtain⟨a,x,e,hx⟩:=hh hL
  rw[e] at q
  have hf:(a++[x]).length=a.length+1:=by simp
  rw[hf] at q
  have hj:a.length<=60000:=by have:=Is 10 s.data.toList.length s.data.toList;rw[e,hf] at this;rw[Lib.size_eq] at hs;omega
  go_enter func48,ntmps48
  go_wp2_with fail
  refine q.mono ?_
  rintro e w1 ⟨rfl,ha⟩
  have hb:Below w.heap.size w w1:=by rw[ha];go_grown
  have LB:Blk w1 w.heap.size (((a++[x]).map bA).map Value.string).toArray 9:=by rw[ha];exact Blk.new _ _ _
  have c1:w1.cell? ⟨w.heap.size,a.length,none⟩=some (.string (bA x)):=by rw[LB.cell];simp
  have ho:(bA x).toList.isEmpty=false:=Bool.eq_false_iff.2 fun e=>hx (by rw[Zu,Af] at e;exact List.isEmpty_iff.1 e)
  have hp:¬ (bA x).toList=[]:=fun e=>hx (by rw[Zu,Af] at e;exact e)
  obtain⟨tp,pe,hE⟩:=(hG.below hb).err
  clear ha LB q hg hh hL hx
  generalize bA x=xx at *
  go_wp2
  exact⟨rfl,⟨tp,pe,rfl⟩,hb⟩
 |some ls=>
  have e:=hg ls hL
  rw[e] at q
  have hf:(ls++[[]]).length=ls.length+1:=by simp
  rw[hf] at q
  obtain⟨hc,_⟩:=Fx hL
  have hk:ls.length<=60000:=by have:=FX ls;rw[<-hc] at this;rw[Lib.size_eq] at hs;omega
  have hn:∀ l∈ls,l.length<=60000:=fun l hl=>by have:=FY hl;rw[<-hc] at this;rw[Lib.size_eq] at hs;omega
  go_enter func48,ntmps48
  go_wp2_with fail
  refine q.mono ?_
  rintro e w1 ⟨rfl,ha⟩
  have hb:Below w.heap.size w w1:=by rw[ha];go_grown
  have LB:Blk w1 w.heap.size (((ls++[[]]).map bA).map Value.string).toArray 9:=by rw[ha];exact Blk.new _ _ _
  have c1:w1.cell? ⟨w.heap.size,ls.length,none⟩=some (.string ⟨#[]⟩):=by rw[LB.cell];simp;rfl
  clear ha q hg hh hL
  go_wp2
  have hA:Below w1.heap.size w1 (w1.alloc (.cells #[.slice (some ⟨w.heap.size,0,none⟩) ls.length (ls.length+1)] tRd)):=(Yg _ _).alloc (Zd _) _
  have RB:=Blk.new w1 #[.slice (some ⟨w.heap.size,0,none⟩) ls.length (ls.length+1)] tRd
  go_returns
  refine ⟨⟨w1.heap.size,rfl,hb.size,⟨w.heap.size,0,ls.length+1,_,RB,LB.below hA,?_,by omega,by omega,hn⟩,hk⟩,Aa hb hA⟩
  simp[IS,Function.comp_def]
def B3 (x:Nat->Value)(D:List Nat)(a:Act):Act:=D.foldl (fun b k=>b.put (some k) (x k)) a
theorem G7 {P:Program}{Q:Exit->Act->World->Prop}{md:Region.Mode}{S:World->Prop}{l:List Oper}{i j:Nat}{o o':Oper}{fuel:Nat}{listed:Array Bool}{a:Act}{w:World}(hr:Region.ready md l.toArray listed=[i,j])(hi:l[i]?=some o)(hj:l[j]?=some o')
  (h:∀ K':Act->World->Prop,Shut (∀ a w,S w->(S w->wpAnyH P md l.toArray Q S fuel (listed.setIfInBounds i true) a w)->K' a w)->if Region.wanted o (yielded l.toArray a.tmps)=true then Oper.wp P o a w K' Q else K' (a.put o.dst undef) w)
  (h':∀ K':Act->World->Prop,Shut (∀ a w,S w->(S w->wpAnyH P md l.toArray Q S fuel (listed.setIfInBounds j true) a w)->K' a w)->if Region.wanted o' (yielded l.toArray a.tmps)=true then Oper.wp P o' a w K' Q else K' (a.put o'.dst undef) w) :
  wpAnyH P md l.toArray Q S (fuel+1) listed a w:=
 wpAnyH_ready hr (by simp) (AllReadyH.cons (by simpa using hi) h (AllReadyH.cons (by simpa using hj) h' AllReadyH.nil))
def JM (D:List Nat)(a0:Act)(Φ:(Nat->Value)->World->Prop)(Ψ:List PanicEntry->World->Prop):Exit->Act->World->Prop
 |.normal,a,u=>∃ x,a=B3 x D a0∧Φ x u
 |.panic c,a,u=>a.defers=a0.defers∧Ψ c u
 |_,_,_=>False
theorem Er {P:Program}{l:List Oper}{Q:Exit->Act->World->Prop}{id:Nat}{a0:Act}{w:World}(S:World->Prop)(n:Nat)(D:List Nat)(Φ:(Nat->Value)->World->Prop)(Ψ:List PanicEntry->World->Prop)(hm:P.follows .mixedOrders=true)(hn:l.toArray.size=n)
  (h1:wpAnyH P .any l.toArray (JM D a0 Φ Ψ) S n (Array.replicate n false) a0 w.drew) (h2:∀ x u,Φ x u->Q .normal (B3 x D a0) u) (h3:∀ c a u,a.defers=a0.defers->Ψ c u->Q (.panic c) a u):(Code.region id l.toArray true).wp P Q a0 w:=by
 refine Code.wp_mono ?_ (aC_ (S:=S) n hm hn h1)
 intro e a u h
 cases e with
 |normal=>obtain⟨x,rfl,hx⟩:=h;exact h2 x u hx
 |panic c=>exact h3 c a u h.1 h.2
 |_=>exact h.elim
theorem Cf {D:List Nat}{a0 a:Act}{Φ:(Nat->Value)->World->Prop}{Ψ:List PanicEntry->World->Prop}{u:World}(hA:a=B3 (fun k=>a.eval (.tmp k)) D a0)(hΦ:Φ (fun k=>a.eval (.tmp k)) u):JM D a0 Φ Ψ .normal a u:=⟨_,hA,hΦ⟩
theorem Fy {α:Type}(wd:By)(f:By->Option α){ls:List By}(h:ahL wd ls=false):manyP wd f ls=some ([],ls):=by
 cases ls with
 |nil=>rfl
 |cons l r=>rw[manyP,if_neg];intro e;rw[show ahL wd (l::r)=ahP wd l from rfl,e] at h;cases h
theorem M0 {P:Program}{D:List Nat}{a0:Act}{Φ:(Nat->Value)->World->Prop}{Ψ:List PanicEntry->World->Prop}{md:Region.Mode}{S:World->Prop}{l:List Oper}{i:Nat}{oi:Oper}{v:Value}{fuel:Nat}{listed:Array Bool}{a:Act}{w:World}(hi:l[i]?=some oi)
  (hs:Region.noSelect l.toArray=true) (hf:Region.free md l.toArray listed i=true) (hr:(Region.ready md l.toArray listed).contains i=true)
  (hy:YieldsIf P l.toArray S oi v a) (hS:S w)
  (h:wpAnyH P md l.toArray (JM D a0 Φ Ψ) S fuel (listed.setIfInBounds i true) (a.put oi.dst v) w):wpAnyH P md l.toArray (JM D a0 Φ Ψ) S (fuel+1) listed a w:=
 Mj hi hs hf hr (fun c a w h=>⟨by have:=h.1;revert this;cases oi.dst<;>exact id,h.2⟩) hy hS h
theorem tkp {P:Program}{D:List Nat}{a0:Act}{Φ:(Nat->Value)->World->Prop}{Ψ:List PanicEntry->World->Prop}{md:Region.Mode}{S:World->Prop}{l:List Oper}(i:Nat){oi:Oper}{v:Value}{fuel:Nat}{listed li:Array Bool}{a b:Act}{w:World}(h:wpAnyH P md l.toArray (JM D a0 Φ Ψ) S fuel li b w)(hi:l[i]?=some oi:=by rfl)
  (hB:(Region.noSelect l.toArray&&Region.free md l.toArray listed i&&(Region.ready md l.toArray listed).contains i)=true:=by kernel_rfl) (hw:Region.wanted oi (yielded l.toArray a.tmps)=true:=by rfl)
  (hy:∀ w,S w->(execOp a.eval oi).run P w=.ok (.value v) w:=by (intro u hu;(try dsimp only at hu);go_simp<;>with_reducible rfl)) (hS:S w:=by first | assumption | trivial)
  (hl:listed.setIfInBounds i true=li:=by (try simp only[Yj,Yq,Yr]);rfl) (ha:a.put oi.dst v=b:=by (try simp only[Act.put,Yj,Yq,Yr]);rfl):wpAnyH P md l.toArray (JM D a0 Φ Ψ) S (fuel+1) listed a w:=by
 subst hl ha
 simp only[Zf] at hB
 exact M0 hi hB.1.1 hB.1.2 hB.2 (.inl ⟨hw,hy⟩) hS h
theorem DF {wd:By}{k:Nat}{l:By}{r:List By}(ha:ahP wd l=true)(h:Ck wd k (l::r)=none):(A0 k l).length≠k+1:=fun e=>by
 unfold Ck at h
 simp only at h
 rw[if_pos ha,if_pos e] at h
 cases h
theorem DG {wd:By}{k:Nat}{l:By}{r:List By}{q:List By×List By}(ha:ahP wd l=true)(h:Ck wd k (l::r)=some q):(A0 k l).length=k+1∧q=((A0 k l).tail,r):=by
 unfold Ck at h
 simp only at h
 rw[if_pos ha] at h
 split at h
 ·next e=>exact⟨e,(Zi h).symm⟩
 ·cases h
theorem Nk {α:Type}:∀ {l:List α},l.length=5->∃ x a b c d,l=[x,a,b,c,d]
 |[x,a,b,c,d],_=>⟨x,a,b,c,d,rfl⟩
theorem Lu {wd l:By}{r:List By}(ha:ahP wd l=true)(h:Ck wd 4 (l::r)=none):ctP l=none:=by
 have:=DF ha h
 unfold ctP
 split
 ·next e=>rw[e] at this;simp at this
 ·rfl
theorem Lw {wd l:By}{r:List By}{q:List By×List By}(ha:ahP wd l=true)(h:Ck wd 4 (l::r)=some q):∃ a v f n,q=([a,v,f,n],r)∧ctP l=(numP a).bind fun a=>(numP v).bind fun v=>(numP n).map fun n=>⟨⟨a,v,bA f⟩,n⟩:=by
 obtain⟨h1,rfl⟩:=DG ha h
 obtain⟨x,a,v,f,n,e⟩:=Nk h1
 refine ⟨a,v,f,n,by rw[e];rfl,?_⟩
 unfold ctP
 rw[e]
theorem EC {α:Type}{wd:By}{f:By->Option α}{l:By}{r:List By}(ha:ahP wd l=true):manyP wd f (l::r)=(f l).bind fun x=>(manyP wd f r).map fun q=>(x::q.1,q.2):=by rw[manyP,if_pos ha]
theorem Iy {w:World}{b:Nat}{c0 c1 c2:Value}{t:TypeId}(h:Blk w b #[c0,c1,c2] t):w.cell? ⟨b,0,none⟩=some c0∧w.cell? ⟨b,1,none⟩=some c1∧w.cell? ⟨b,2,none⟩=some c2:=⟨h.cell 0,h.cell 1,h.cell 2⟩
theorem K5 {w:World}{b:Nat}{c0 c1 c2:Value}{t:TypeId}(h:Blk w b #[c0,c1,c2] t)(x y z:Value):Blk (((w.setCell ⟨b,0,none⟩ x).setCell ⟨b,1,none⟩ y).setCell ⟨b,2,none⟩ z) b #[x,y,z] t∧w.grownBy (((w.setCell ⟨b,0,none⟩ x).setCell ⟨b,1,none⟩ y).setCell ⟨b,2,none⟩ z) (some b):=
 ⟨by have:=((h.set 0 x).set 1 y).set 2 z;simpa using this,af_ (af_ (af_ (Yh _ _) _ _) _ _) _ _⟩
end
end Go.Proofs.YtkiceokhlceciaaGreatDoor
