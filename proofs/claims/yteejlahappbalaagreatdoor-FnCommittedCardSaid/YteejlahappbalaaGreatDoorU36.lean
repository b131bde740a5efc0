/- Texts of pools, read and written; what is drawn. -/
import Derived.Test.YteejlahappbalaaGreatDoorU23
set_option maxHeartbeats 20000000
set_option maxRecDepth 100000
namespace Go.Proofs.YteejlahappbalaaGreatDoor
section
open Go Tryz
theorem JA {t:By}(h:t≠[]):Lib.decNat t=Lib.decFrom 0 t:=by
 unfold Lib.decNat
 cases t with
 |nil=>exact absurd rfl h
 |cons x l=>rfl
theorem Jx (n:Int):Lib.atoi (Lib.itoa n)=some n:=by
 unfold Lib.itoa;split
 ·next hn=>
  obtain⟨k,rfl⟩:∃ k:Nat,n=-(k:Int):=⟨n.natAbs,sH⟩;rw[show (-(k:Int)).natAbs=k by omega];unfold Lib.atoi;simp only[beq_self_eq_true,if_true];rw[JA (Ip k),Dj];rfl
 ·next hn=>
  obtain⟨k,rfl⟩:∃ k:Nat,n=(k:Int):=⟨n.toNat,sH⟩;rw[show (k:Int).toNat=k by omega];obtain⟨d,r,e,hd⟩:=Io k;have h2:=JA (Ip k);rw[Dj,e] at h2;rw[e];unfold Lib.atoi;have ha:(UInt8.ofNat (48+d)==43)=false:=by
   rw[ZV];intro e;have:=congrArg UInt8.toNat e;simp at this;omega
  have hb:(UInt8.ofNat (48+d)==45)=false:=by
   rw[ZV];exact Qy hd
  simp only[ha,hb];rw[h2];rfl
def CT (s:By):By:=Lib.trimPrefix s [45]
theorem OW (t:By):CT (45::t)=t:=by simp[CT,Lib.trimPrefix,Lib.hasPrefix]
theorem OY {t:By}(h:t.head?≠some 45):CT t=t:=by
 unfold CT Lib.trimPrefix Lib.hasPrefix
 cases t with
 |nil=>rfl
 |cons x l=>
  have:¬ x=45:=fun e=>h dH;rw[if_neg];simp;exact fun e=>this e.symm
theorem J4 (n:Int):CT (Lib.itoa n)=Lib.decDigits n.natAbs:=by
 unfold Lib.itoa;split
 ·exact OW _
 ·next hn=>
  obtain⟨k,rfl⟩:∃ k:Nat,n=(k:Int):=⟨n.toNat,sH⟩;rw[show (k:Int).toNat=k by omega,show (k:Int).natAbs=k by omega];obtain⟨d,r,e,hd⟩:=Io k;exact OY (by rw[e];simp only[List.head?_cons,ne_eq,Zo];exact Qy hd)
theorem UC {n:Int}(h:(CT (Lib.itoa n)).length<=10):AJ n:=by
 rw[J4] at h;have h1:=EP _ 0 _ (Dj n.natAbs);have h2:10 ^ (Lib.decDigits n.natAbs).length<=10 ^ 10:=Nat.pow_le_pow_right sH h;have h3:(10:Nat) ^ 10=10000000000:=sJ;unfold AJ;omega
theorem Tt {n:Int}(h:AJ n):(CT (Lib.itoa n)).length<=10:=by
 rw[J4];obtain⟨h1,h2⟩:=h;exact Kk 9 _ sH
theorem OM {s:By}(h:10<(CT s).length):numP s=none:=by
 cases hc:numP s with
 |none=>rfl
 |some n=>
  obtain⟨rfl,h2⟩:=Bi hc;have:=Tt h2;omega
theorem Qx {s:By}(h:Lib.atoi s=none):numP s=none:=by
 cases hc:numP s with
 |none=>rfl
 |some n=>
  obtain⟨rfl,h2⟩:=Bi hc;rw[Jx] at h
  cases h
theorem MJ {s:By}{n:Int}(h:Lib.atoi s=some n)(h2:Lib.itoa n≠s):numP s=none:=by
 cases hc:numP s with
 |none=>rfl
 |some m=>
  obtain⟨rfl,_⟩:=Bi hc;rw[Jx] at h;obtain rfl:=Zi h;exact absurd rfl h2
theorem OL {s:By}{n:Int}(h1:(CT s).length<=10)(h2:Lib.itoa n=s):numP s=some n:=by
 subst h2;exact Bh (UC h1)
theorem Ro (s:By):s.length<=(CT s).length+1:=by
 unfold CT Lib.trimPrefix;split
 ·simp;omega
 ·simp
theorem LR {s:By}(h:(CT s).length<=10):Lib.parseIntB 64 s=Lib.NumEnd.ofOption (Lib.atoi s):=by
 have:=Ro s;rw[Lib.parseIntB_64,Lib.atoiAll_short s sH]
end
section
open Go.Shelf Go.RowKit Go.Lib Tryz
def SL:Go.Shelf.Ren:=⟨fun | 174=>49 | 247=>102 | 245=>103 | 287=>146 | 279=>147 | 280=>148 | 281=>149 | 282=>150 | 321=>183 | 322=>184 | 316=>185 | 171=>187 | 205=>186 | 243=>220 | 246=>131 | 283=>170 | 284=>171 | 285=>172 | 286=>173 | 129=>203 | 317=>216 | 318=>217 | 319=>218 | 320=>219 | 337=>234 | 338=>235 | n=>n,fun | 9=>9 | 3=>3 | 2=>2 | 75=>99 | 85=>100 | 4=>4 | 167=>206 | 5=>5 | 53=>189 | 175=>207 | 46=>174 | 168=>209 | 37=>22 | 0=>0 | 210=>242 | 21=>21 | 127=>218 | 145=>271 | 143=>269 | 171=>228 | 173=>231 | 212=>267 | 51=>108 | 20=>20 | 213=>268 | 232=>289 | 233=>290 | 80=>173 | n=>n,fun | 15=>2 | 16=>3 | 17=>4 | 18=>5 | 19=>6 | n=>n⟩
theorem piL:LaysC.n174 Tryz.prog SL where
 mixed:=by kernel_rfl
 f129:=Tryz.func203.trans (congrArg some sI)
 f171:=Tryz.func187.trans (congrArg some sI)
 f174:=Tryz.func49.trans (congrArg some sI)
 f205:=Tryz.func186.trans (congrArg some sI)
 f243:=Tryz.func220.trans (congrArg some sI)
 f245:=Tryz.func103.trans (congrArg some sI)
 f246:=Tryz.func131.trans (congrArg some sI)
 f247:=Tryz.func102.trans (congrArg some sI)
 f279:=Tryz.func147.trans (congrArg some sI)
 f280:=Tryz.func148.trans (congrArg some sI)
 f281:=Tryz.func149.trans (congrArg some sI)
 f282:=Tryz.func150.trans (congrArg some sI)
 f283:=Tryz.func170.trans (congrArg some sI)
 f284:=Tryz.func171.trans (congrArg some sI)
 f285:=Tryz.func172.trans (congrArg some sI)
 f286:=Tryz.func173.trans (congrArg some sI)
 f287:=Tryz.func146.trans (congrArg some sI)
 f316:=Tryz.func185.trans (congrArg some sI)
 f317:=Tryz.func216.trans (congrArg some sI)
 f318:=Tryz.func217.trans (congrArg some sI)
 f319:=Tryz.func218.trans (congrArg some sI)
 f320:=Tryz.func219.trans (congrArg some sI)
 f321:=Tryz.func183.trans (congrArg some sI)
 f322:=Tryz.func184.trans (congrArg some sI)
 f337:=Tryz.func234.trans (congrArg some sI)
 f338:=Tryz.func235.trans (congrArg some sI)
 t0:=Tryz.underlying0
 a0:=Tryz.isAgg0
 z0:=Tryz.sizeOf0
 v0:=Tryz.zeroValue0
 t2:=Tryz.underlying2
 a2:=Tryz.isAgg2
 z2:=Tryz.sizeOf2
 v2:=Tryz.zeroValue2
 t3:=Tryz.underlying3
 a3:=Tryz.isAgg3
 z3:=Tryz.sizeOf3
 v3:=Tryz.zeroValue3
 t4:=Tryz.underlying4
 a4:=Tryz.isAgg4
 z4:=Tryz.sizeOf4
 v4:=Tryz.zeroValue4
 t5:=Tryz.underlying5
 a5:=Tryz.isAgg5
 z5:=Tryz.sizeOf5
 v5:=Tryz.zeroValue5
 t9:=Tryz.underlying9
 a9:=Tryz.isAgg9
 z9:=Tryz.sizeOf9
 v9:=Tryz.zeroValue9
 t20:=Tryz.underlying20
 a20:=Tryz.isAgg20
 z20:=Tryz.sizeOf20
 v20:=Tryz.zeroValue20
 t21:=Tryz.underlying21
 a21:=Tryz.isAgg21
 z21:=Tryz.sizeOf21
 v21:=Tryz.zeroValue21
 t37:=Tryz.underlying22
 a37:=Tryz.isAgg22
 z37:=Tryz.sizeOf22
 v37:=Tryz.zeroValue22
 t46:=Tryz.underlying174
 a46:=Tryz.isAgg174
 z46:=Tryz.sizeOf174
 v46:=Tryz.zeroValue174
 t51:=Tryz.underlying108
 a51:=Tryz.isAgg108
 z51:=Tryz.sizeOf108
 v51:=Tryz.zeroValue108
 t53:=Tryz.underlying189
 a53:=Tryz.isAgg189
 z53:=Tryz.sizeOf189
 v53:=Tryz.zeroValue189
 t75:=Tryz.underlying99
 a75:=Tryz.isAgg99
 z75:=Tryz.sizeOf99
 v75:=Tryz.zeroValue99
 t85:=Tryz.underlying100
 a85:=Tryz.isAgg100
 z85:=Tryz.sizeOf100
 v85:=Tryz.zeroValue100
 t127:=Tryz.underlying218
 a127:=Tryz.isAgg218
 z127:=Tryz.sizeOf218
 v127:=Tryz.zeroValue218
 t143:=Tryz.underlying269
 a143:=Tryz.isAgg269
 z143:=Tryz.sizeOf269
 v143:=Tryz.zeroValue269
 t145:=Tryz.underlying271
 a145:=Tryz.isAgg271
 z145:=Tryz.sizeOf271
 v145:=Tryz.zeroValue271
 t167:=Tryz.underlying206
 a167:=Tryz.isAgg206
 z167:=Tryz.sizeOf206
 v167:=Tryz.zeroValue206
 t168:=Tryz.underlying209
 a168:=Tryz.isAgg209
 z168:=Tryz.sizeOf209
 v168:=Tryz.zeroValue209
 t171:=Tryz.underlying228
 a171:=Tryz.isAgg228
 z171:=Tryz.sizeOf228
 v171:=Tryz.zeroValue228
 t173:=Tryz.underlying231
 a173:=Tryz.isAgg231
 z173:=Tryz.sizeOf231
 v173:=Tryz.zeroValue231
 t175:=Tryz.underlying207
 a175:=Tryz.isAgg207
 z175:=Tryz.sizeOf207
 v175:=Tryz.zeroValue207
 t210:=Tryz.underlying242
 a210:=Tryz.isAgg242
 z210:=Tryz.sizeOf242
 v210:=Tryz.zeroValue242
 t212:=Tryz.underlying267
 a212:=Tryz.isAgg267
 z212:=Tryz.sizeOf267
 v212:=Tryz.zeroValue267
 t213:=Tryz.underlying268
 a213:=Tryz.isAgg268
 z213:=Tryz.sizeOf268
 t232:=Tryz.underlying289
 a232:=Tryz.isAgg289
 z232:=Tryz.sizeOf289
 v232:=Tryz.zeroValue289
 t233:=Tryz.underlying290
 a233:=Tryz.isAgg290
 z233:=Tryz.sizeOf290
 v233:=Tryz.zeroValue290
 g15:=by kernel_rfl
 g16:=by kernel_rfl
 g17:=by kernel_rfl
 g18:=by kernel_rfl
 g19:=by kernel_rfl
 t80:=Tryz.underlying173
 a80:=Tryz.isAgg173
 z80:=Tryz.sizeOf173
 v80:=Tryz.zeroValue173
 i0:=by kernel_rfl
 i2:=by kernel_rfl
 i3:=by kernel_rfl
 i4:=by kernel_rfl
 i5:=by kernel_rfl
 i9:=by kernel_rfl
 i20:=by kernel_rfl
 i21:=by kernel_rfl
 i37:=by kernel_rfl
 i46:=by kernel_rfl
 i51:=by kernel_rfl
 i53:=by kernel_rfl
 i75:=by kernel_rfl
 i80:=by kernel_rfl
 i85:=by kernel_rfl
 i127:=by kernel_rfl
 i143:=by kernel_rfl
 i145:=by kernel_rfl
 i167:=by kernel_rfl
 i168:=by kernel_rfl
 i171:=by kernel_rfl
 i173:=by kernel_rfl
 i175:=by kernel_rfl
 i210:=by kernel_rfl
 i212:=by kernel_rfl
 i232:=by kernel_rfl
 i233:=by kernel_rfl
 m15:=by kernel_rfl
 m16:=by kernel_rfl
 m17:=by kernel_rfl
 m18:=by kernel_rfl
 m19:=by kernel_rfl
 c0:=by kernel_rfl
 c2:=by kernel_rfl
 c3:=by kernel_rfl
 c4:=by kernel_rfl
 c5:=by kernel_rfl
 c9:=by kernel_rfl
 c20:=by kernel_rfl
 c21:=by kernel_rfl
 c37:=by kernel_rfl
 c46:=by kernel_rfl
 c51:=by kernel_rfl
 c53:=by kernel_rfl
 c75:=by kernel_rfl
 c80:=by kernel_rfl
 c85:=by kernel_rfl
 c127:=by kernel_rfl
 c143:=by kernel_rfl
 c145:=by kernel_rfl
 c167:=by kernel_rfl
 c168:=by kernel_rfl
 c171:=by kernel_rfl
 c173:=by kernel_rfl
 c175:=by kernel_rfl
 c210:=by kernel_rfl
 c212:=by kernel_rfl
 c213:=by kernel_rfl
 c232:=by kernel_rfl
 c233:=by kernel_rfl
def Tv:Go.Shelf.Ren:=⟨fun | 101=>48 | 208=>101 | 206=>145 | n=>n,fun | 9=>9 | 4=>4 | 3=>3 | n=>n,fun | n=>n⟩
theorem tpL:Lays.n101 Tryz.prog Tv where
 mixed:=by kernel_rfl
 f101:=Tryz.func48.trans (congrArg some sI)
 f206:=Tryz.func145.trans (congrArg some sI)
 f208:=Tryz.func101.trans (congrArg some sI)
 t3:=Tryz.underlying3
 a3:=Tryz.isAgg3
 z3:=Tryz.sizeOf3
 v3:=Tryz.zeroValue3
 t4:=Tryz.underlying4
 a4:=Tryz.isAgg4
 z4:=Tryz.sizeOf4
 v4:=Tryz.zeroValue4
 t9:=Tryz.underlying9
 a9:=Tryz.isAgg9
 z9:=Tryz.sizeOf9
 v9:=Tryz.zeroValue9
end
section
open Go Go.RowKit Go.BigFrame Tryz
theorem N6 (s:By):(CT s).length<=s.length:=by
 unfold CT Lib.trimPrefix;split<;>simp
def Pan (e:Ending):Prop:=∃ tp p,e=.panicked [{v:=.iface tp p,recovered:=false}]
theorem ll{p:Prop}(h:p:=by
 obtain⟨V,hV⟩:∃ V,Hid (Gl (numP s.data.toList)=V):=⟨_,rfl⟩;rw[hV.out];have q1:Calls prog 48 #[.string s,.string ⟨#[45]⟩] w fun e w'=>e=.returned (.string t)∧w'=w:=by
  rw[<-ht.out];exact Any.strings_TrimPrefix tpL s ⟨#[45]⟩ w
 go_enter func19,ntmps19;go_wp2_with fail;refine q1.mono ?_;rintro e w1 ⟨rfl,qU⟩;obtain rfl:w=w1:=qU.symm;clear q1;rcases Nat.lt_or_ge 10 t.size with jM | jM
 ·have hv:V=.tuple #[.int .i64 0,.bool false]:=by rw[<-hV.out,OM sH];rfl
  subst hv;go_wp2;go_returns;exact⟨rfl,Yg _ _⟩
 ·have kQ:=LR (s:=s.data.toList) sH
  cases ha:Lib.atoi s.data.toList with
  |none=>
   have hv:V=.tuple #[.int .i64 0,.bool false]:=by rw[<-hV.out,Qx ha];rfl
   subst hv;rw[ha] at kQ;obtain⟨tp,p,hy⟩:=hG.syn;go_wp2_with fail;refine (Any.strconv_ParseInt_10_at64_syntax piL s sH kQ (.iface tp p) w hy (.inr ⟨tp,p,rfl⟩)).mono ?_;rintro e w1 ⟨N,rfl,_,_,hB⟩;go_wp2;go_returns;exact⟨rfl,hB⟩
  |some n=>
   rw[ha] at kQ;have hb:=Lib.parseIntB_bounds kQ;rw[show (2 ^ (64-1):Nat)=9223372036854775808 by decide] at hb;have q2:=fun (u:World) (hu:Below w.heap.size w u)=>AF n u sH sH (hG.below hu).tab;clear hb;go_wp2_with fail;refine (Any.strconv_ParseInt_10_at64_ok piL s sH n kQ w).mono ?_;rintro e w1 ⟨rfl,qU⟩;have hB:Below w.heap.size w w1:=by
    rcases qU with rfl | ⟨t,rfl⟩
    ·exact Yg _ _
    ·exact Lib.bytesWorld_below _ _ _
   clear qU;go_wp2_with fail;refine (q2 w1 hB).mono ?_;rintro e w2 ⟨rfl,qj⟩;replace qj:=Aa hB qj;by_cases hd:Lib.itoa n=s.data.toList
   ·have hv:V=.tuple #[.int .i64 n,.bool true]:=by rw[<-hV.out,OL sH hd];rfl
    subst hv;have he:(AG n).toList=s.toList:=by rw[Zu,Zu,Eb,hd]
    go_wp2;go_returns;exact⟨rfl,qj⟩
   ·have hv:V=.tuple #[.int .i64 0,.bool false]:=by rw[<-hV.out,MJ ha hd];rfl
    subst hv;have he:((AG n).toList==s.toList)=false:=by rw[ZV,Zu,Zu,Eb];exact hd
    go_wp2;go_returns
    exact⟨rfl,qj⟩):p:=h
theorem LA (s:ByteArray)(w:World)(hs:s.size<=100000)(hG:Glb w) :
  Calls prog 19 #[.string s] w fun e w'=>e=.returned (Gl (numP s.data.toList))∧Below w.heap.size w w':=by
 obtain⟨t,ht⟩:∃ t:ByteArray,Hid ((⟨(CT s.data.toList).toArray⟩:ByteArray)=t):=⟨_,rfl⟩;have hc:t.size=(CT s.data.toList).length:=by rw[<-ht.out,Lib.size_eq]
 have hf:t.size<=100000:=by
  have h1:=N6 s.data.toList;have h2:=Lib.size_eq s;omega
 exact ll
theorem Ap (s:ByteArray)(w:World)(hs:s.size<=100000)(hG:Glb w) :
  Calls prog 106 #[.string s] w fun e w'=>(match numP s.data.toList with
   |none=>Pan e
   |some n=>e=.returned (.int .i64 n))∧Below w.heap.size w w':=by
 have q1:=LA s w hs hG
 cases hn:numP s.data.toList with
 |none=>
  rw[hn] at q1;go_enter func106,ntmps106;go_wp2_with fail;refine q1.mono ?_;rintro e w1 ⟨rfl,hB⟩;obtain⟨tp,p,hy⟩:=(hG.below hB).err;unfold Gl;go_wp2;exact⟨rfl,⟨tp,p,rfl⟩,hB⟩
 |some n=>
  rw[hn] at q1;go_enter func106,ntmps106;go_wp2_with fail;refine q1.mono ?_;rintro e w1 ⟨rfl,hB⟩;unfold Gl;go_wp2;go_returns;exact⟨rfl,hB⟩
theorem Eu (s:ByteArray)(w:World)(hG:Glb w) :
  Calls prog 154 #[.string s] w fun e w'=>(match CC s.data.toList with
   |none=>Pan e
   |some b=>e=.returned (.bool b))∧w'=w:=by
 obtain⟨tp,p,hy⟩:=hG.err;by_cases h0:s.data.toList=[48]
 ·have hf:CC s.data.toList=some false:=by rw[CC,if_pos h0]
  rw[hf];have e0:s.toList=[48]:=by rw[Zu,h0]
  clear hf h0;go_enter func154,ntmps154;exact mP
 ·by_cases h1:s.data.toList=[49]
  ·have hf:CC s.data.toList=some true:=by rw[CC,if_neg h0,if_pos h1]
   rw[hf];have e0:s.toList=[49]:=by rw[Zu,h1]
   clear hf h0 h1;go_enter func154,ntmps154;exact mP
  ·have hf:CC s.data.toList=none:=by rw[CC,if_neg h0,if_neg h1]
   rw[hf];have e0:(s.toList==[48])=false:=by rw[ZV,Zu];exact h0
   have e1:(s.toList==[49])=false:=by rw[ZV,Zu];exact h1
   clear hf h0 h1;go_enter func154,ntmps154;go_wp2;exact⟨rfl,⟨tp,p,rfl⟩,rfl⟩
end
section
open Go Tryz
theorem EE (c:UInt8):∀ l:By,Lib.index l [c]=match cutB c l with
  |none=>-1
  |some q=>(q.1.length:Int)
 |[]=>rfl
 |x::l=>by
  rw[Lib.index,cutB,EE c l]
  by_cases h:x=c
  ·subst h;simp
  ·have h2:¬ c=x:=fun e=>h e.symm
   rw[if_neg (by simp[h2]),if_neg h]
   cases hc:cutB c l with
   |none=>simp
   |some q=>
    simp only[Option.map_some,Zw]
    rw[if_neg (by first | (simp;done) | (simp;omega))]
    simp
def Ew (c:UInt8):Nat->By->List By
 |0,l=>[l]
 |k+1,l=>match cutB c l with
  |none=>[l]
  |some q=>q.1::Ew c k q.2
theorem Mh:∀ (k:Nat) (l:By),Ew 32 k l=A0 k l
 |0,l=>rfl
 |k+1,l=>by
  rw[Ew,A0]
  cases cutB 32 l with
  |none=>rfl
  |some q=>simp only;rw[Mh k q.2]
theorem Fa (c:UInt8):∀ (k:Nat) (l:By),Lib.splitK [c] 0 k l=Ew c k l
 |0,l=>rfl
 |k+1,l=>by
  rw[Lib.splitK,Ew,EE c l]
  cases hc:cutB c l with
  |none=>simp
  |some q=>
   obtain⟨h1,_⟩:=Bq (a:=q.1) (b:=q.2) hc
   simp only
   rw[if_neg (by first | (simp;done) | (simp;omega)),Fa c k]
   have e1:l.take ((q.1.length:Int).toNat+0)=q.1:=by rw[h1];simp
   have e2:l.drop ((q.1.length:Int).toNat+[c].length)=q.2:=by
    rw[h1];have:(q.1.length:Int).toNat+[c].length=(q.1++[c]).length:=sK;rw[this,show q.1++c::q.2=(q.1++[c])++q.2 by simp,List.drop_left]
   rw[e1,e2]
theorem Ez {c:UInt8}{l:By}{q:By×By}(h:cutB c l=some q):q.2.length<l.length:=by
 obtain⟨h1,_⟩:=Bq (a:=q.1) (b:=q.2) h;rw[h1];simp;omega
theorem JY (c:UInt8):∀ (n k k':Nat) (l:By),l.length<=n->l.length<=k->l.length<=k'->Ew c k l=Ew c k' l
 |0,k,k',l,h,_,_=>by
  obtain rfl:=Zt (Nat.le_zero.1 h)
  cases k<;>cases k'<;>rfl
 |n+1,k,k',l,h,h1,h2=>by
  cases hc:cutB c l with
  |none=>
   have:∀ k,Ew c k l=[l]:=fun k=>by
    cases k with
    |zero=>rfl
    |succ k=>rw[Ew,hc]
   rw[this,this]
  |some q=>
   have:=Ez hc
   obtain⟨k,rfl⟩:∃ j,k=j+1:=⟨k-1,sH⟩
   obtain⟨k',rfl⟩:∃ j,k'=j+1:=⟨k'-1,sH⟩
   rw[Ew,Ew,hc]
   simp only
   rw[JY c n k k' q.2 sH sH sH]
theorem JZ (c:UInt8):∀ (n:Nat) (l:By),l.length<=n->Lib.splitK [c] 0 (Lib.count l [c]) l=Ew c n l
 |0,l,h=>by
  obtain rfl:=Zt (Nat.le_zero.1 h)
  rfl
 |n+1,l,h=>by
  rw[Ew]
  cases hc:cutB c l with
  |none=>rw[Lib.count_miss (by rw[EE,hc])];rfl
  |some q=>
   have hi:=EE c l
   rw[hc] at hi
   obtain⟨h1,_⟩:=Bq (a:=q.1) (b:=q.2) hc
   have e2:l.drop (q.1.length+[c].length)=q.2:=by
    rw[h1];have:q.1.length+[c].length=(q.1++[c]).length:=sK;rw[this,show q.1++c::q.2=(q.1++[c])++q.2 by simp,List.drop_left]
   rw[Lib.count_hit sK hi,e2,Nat.add_comm,Fa,Ew,hc];simp only;rw[<-Fa,JZ c n q.2 (by have:=Ez hc;omega)]
theorem JR:∀ (k:Nat) (l:By),l.length<=k->(∀ ls,lnsB k l=some ls->Ew 10 k l=ls++[[]])∧(lnsB k l=none->∃ a x,Ew 10 k l=a++[x]∧x≠[])
 |0,l,h=>by
  obtain rfl:=Zt (Nat.le_zero.1 h)
  exact⟨fun ls h=>by obtain rfl:=Zi h;rfl,fun h=>by cases h⟩
 |k+1,l,h=>by
  by_cases hl:l=[]
  ·subst hl
   exact⟨fun ls h=>by obtain rfl:=Zi h;rfl,fun h=>by cases h⟩
  ·rw[lnsB,if_neg hl,Ew]
   cases hc:cutB 10 l with
   |none=>exact⟨fun ls h=>sY,fun _=>⟨[],l,rfl,hl⟩⟩
   |some q=>
    have:=Ez hc
    obtain⟨h1,h2⟩:=JR k q.2 sH
    simp only
    cases hr:lnsB k q.2 with
    |none=>
     obtain⟨a,x,e,hx⟩:=h2 hr
     exact⟨fun ls h=>sY,fun _=>⟨q.1::a,x,oV,hx⟩⟩
    |some r=>
     exact⟨fun ls h=>by obtain rfl:=Zi h;rw[h1 r hr];rfl,fun h=>by cases h⟩
theorem Qt {l:List ByteArray}{m:List By}(h:l.map (·.data.toList)=m):l=m.map bA:=by
 subst h;rw[List.map_map];have:(bA ∘ fun x:ByteArray=>x.data.toList)=id:=by funext x;exact Dc x
 rw[this,List.map_id]
theorem KJ (s:ByteArray)(k:Nat):Lib.splitB ⟨#[32]⟩ 0 (min k s.size) s=(A0 k s.data.toList).map bA:=by
 refine Qt ?_;rw[Lib.splitB_data];show Lib.splitK [32] 0 _ _=_;rw[Fa,<-Mh];have hs:s.size=s.data.toList.length:=by first | (simp;done) | (simp;rfl)
 by_cases hk:k<=s.size
 ·rw[ZZ hk]
 ·rw[Nat.min_eq_right sH];exact JY 32 _ _ _ _ (Zd _) sH sH
theorem KI (s:ByteArray):Lib.splitB ⟨#[10]⟩ 0 (Lib.countB s ⟨#[10]⟩) s=(Ew 10 s.data.toList.length s.data.toList).map bA:=by
 refine Qt ?_;rw[Lib.splitB_data];exact JZ 10 _ _ (Zd _)
end
section
open Go.Shelf Go.RowKit Go.Lib Tryz
def SC:Go.Shelf.Ren:=⟨fun | 99=>153 | 206=>145 | n=>n,fun | 9=>9 | 4=>4 | 3=>3 | n=>n,fun | n=>n⟩
theorem hpL:Lays.n99 Tryz.prog SC where
 mixed:=by kernel_rfl
 f99:=Tryz.func153.trans (congrArg some sI)
 f206:=Tryz.func145.trans (congrArg some sI)
 t3:=Tryz.underlying3
 a3:=Tryz.isAgg3
 z3:=Tryz.sizeOf3
 v3:=Tryz.zeroValue3
 t4:=Tryz.underlying4
 a4:=Tryz.isAgg4
 z4:=Tryz.sizeOf4
 v4:=Tryz.zeroValue4
 t9:=Tryz.underlying9
 a9:=Tryz.isAgg9
 z9:=Tryz.sizeOf9
 v9:=Tryz.zeroValue9
def Tl:Go.Shelf.Ren:=⟨fun | 147=>152 | 221=>151 | 268=>188 | 138=>189 | 143=>190 | 195=>221 | 197=>222 | 218=>223 | 219=>100 | 260=>236 | 217=>141 | 225=>142 | 224=>143 | 267=>144 | 266=>181 | 314=>182 | n=>n,fun | 9=>9 | 3=>3 | 31=>40 | 4=>4 | 0=>0 | 105=>273 | 21=>21 | 5=>5 | 46=>174 | 119=>291 | 139=>294 | 138=>293 | 146=>238 | 51=>108 | n=>n,fun | 1=>1 | 3=>7 | 4=>8 | n=>n⟩
theorem snL:Lays.n147 Tryz.prog Tl where
 mixed:=by kernel_rfl
 f138:=Tryz.func189.trans (congrArg some sI)
 f143:=Tryz.func190.trans (congrArg some sI)
 f147:=Tryz.func152.trans (congrArg some sI)
 f195:=Tryz.func221.trans (congrArg some sI)
 f197:=Tryz.func222.trans (congrArg some sI)
 f217:=Tryz.func141.trans (congrArg some sI)
 f218:=Tryz.func223.trans (congrArg some sI)
 f219:=Tryz.func100.trans (congrArg some sI)
 f221:=Tryz.func151.trans (congrArg some sI)
 f224:=Tryz.func143.trans (congrArg some sI)
 f225:=Tryz.func142.trans (congrArg some sI)
 f260:=Tryz.func236.trans (congrArg some sI)
 f266:=Tryz.func181.trans (congrArg some sI)
 f267:=Tryz.func144.trans (congrArg some sI)
 f268:=Tryz.func188.trans (congrArg some sI)
 f314:=Tryz.func182.trans (congrArg some sI)
 t0:=Tryz.underlying0
 a0:=Tryz.isAgg0
 z0:=Tryz.sizeOf0
 v0:=Tryz.zeroValue0
 t3:=Tryz.underlying3
 a3:=Tryz.isAgg3
 z3:=Tryz.sizeOf3
 v3:=Tryz.zeroValue3
 t4:=Tryz.underlying4
 a4:=Tryz.isAgg4
 z4:=Tryz.sizeOf4
 v4:=Tryz.zeroValue4
 t5:=Tryz.underlying5
 a5:=Tryz.isAgg5
 z5:=Tryz.sizeOf5
 v5:=Tryz.zeroValue5
 t9:=Tryz.underlying9
 a9:=Tryz.isAgg9
 z9:=Tryz.sizeOf9
 v9:=Tryz.zeroValue9
 t21:=Tryz.underlying21
 a21:=Tryz.isAgg21
 z21:=Tryz.sizeOf21
 v21:=Tryz.zeroValue21
 t31:=Tryz.underlying40
 a31:=Tryz.isAgg40
 z31:=Tryz.sizeOf40
 v31:=Tryz.zeroValue40
 t46:=Tryz.underlying174
 a46:=Tryz.isAgg174
 z46:=Tryz.sizeOf174
 v46:=Tryz.zeroValue174
 t51:=Tryz.underlying108
 a51:=Tryz.isAgg108
 z51:=Tryz.sizeOf108
 v51:=Tryz.zeroValue108
 t105:=Tryz.underlying273
 a105:=Tryz.isAgg273
 z105:=Tryz.sizeOf273
 v105:=Tryz.zeroValue273
 t119:=Tryz.underlying291
 a119:=Tryz.isAgg291
 z119:=Tryz.sizeOf291
 t138:=Tryz.underlying293
 a138:=Tryz.isAgg293
 z138:=Tryz.sizeOf293
 v138:=Tryz.zeroValue293
 t139:=Tryz.underlying294
 a139:=Tryz.isAgg294
 z139:=Tryz.sizeOf294
 v139:=Tryz.zeroValue294
 t146:=Tryz.underlying238
 a146:=Tryz.isAgg238
 z146:=Tryz.sizeOf238
 v146:=Tryz.zeroValue238
 g1:=by kernel_rfl
 g3:=by kernel_rfl
 g4:=by kernel_rfl
end
section
open Go Go.RowKit Go.BigFrame Tryz
theorem Tq {ls:List By}{i:Nat}{l:By}(h:ls[i]?=some l):(MW ls)[i]?=some (.string (bA l)):=by simp[MW,h]
def ahL (wd:By):List By->Bool
 |[]=>false
 |l::_=>ahP wd l
theorem Bk {w a b:World}{rb:Nat}{row:Option Nat}(h:w.grownBy a (some rb))(h':a.grownBy b row)(hr:∀ k,row=some k->w.heap.size<=k∨k=rb):w.grownBy b (some rb):=by
 obtain⟨o1,t1,p1,s1,b1⟩:=h;obtain⟨o2,t2,p2,s2,b2⟩:=h';refine ⟨o2.trans o1,t2.trans t1,p2.trans p1,Zl s1 s2,fun k hk ha=>?_⟩;rw[b2 k (Zy hk s1) (fun e=>by rcases hr k e.symm with q | q;omega;exact ha (by rw[q])),b1 k hk ha]
theorem BJ {w a b:World}{rb:Nat}(h:w.grownBy a (some rb))(h':Below a.heap.size a b):w.grownBy b (some rb):=
 Bk (row:=none) h ⟨h'.os,h'.tape,h'.output,h'.size,fun k hk _=>h'.block k hk⟩ (fun k e=>by cases e)
theorem sq{p:Prop}(h:p:=by
 rw[h2.cell];have:=Tq (ls:=l::r) (i:=0) rfl;rw[<-h3] at this
 simpa using this):p:=h
theorem CY (rb:Nat)(ls:List By)(wd:ByteArray)(w:World)(h:Dw w rb ls)(hwd:wd.size<=100) :
  Calls prog 107 #[.pointer (some ⟨rb,0,none⟩),.string wd] w fun e w'=>e=.returned (.bool (ahL wd.data.toList ls))∧w'=w:=by
 obtain⟨lb,o,lc,c,h1,h2,h3,h4,h5,h6⟩:=h.out;have c0:=h1.cell 0
 cases ls with
 |nil=>
  simp only[YK] at c0;go_enter func107,ntmps107;exact mP
 |cons l r=>
  have c1:w.cell? ⟨lb,o,none⟩=some (.string (bA l)):=by
   exact sq
  obtain⟨V,hV⟩:∃ V,Hid (ahL wd.data.toList (l::r)=V):=⟨_,rfl⟩;rw[hV.out];have q:=Any.strings_HasPrefix hpL (bA l) (wd++⟨#[32]⟩) w;have e:Lib.hasPrefix (bA l).data.toList (wd++⟨#[32]⟩:ByteArray).data.toList=V:=by
   rw[<-hV.out];simp[ahL,ahP,Lib.hasPrefix,Ak]
  rw[e] at q;clear e;have hn:(0:Int)<((l::r).length:Nat):=by simp only[Zw];omega
  generalize (l::r).length=n at *;go_enter func107,ntmps107;go_wp2_with fail;refine q.mono ?_;rintro e w1 ⟨rfl,rfl⟩;exact mP
theorem CD {w w':World}{row:Option Nat}(h:Below w.heap.size w w'):w.grownBy w' row:=⟨h.os,h.tape,h.output,h.size,fun k hk _=>h.block k hk⟩
def CP (wd:By)(k:Nat):List By->Option (List By×List By)
 |[]=>none
 |l::r=>if ahP wd l=true then (if (A0 k l).length=k+1 then some ((A0 k l).tail,r) else none) else none
theorem Mo:∀ (k:Nat) (l:By),(A0 k l).length<=k+1∧(A0 k l).length<=l.length+1
 |0,l=>by simp[A0]
 |k+1,l=>by
  rw[A0]
  cases hc:cutB 32 l with
  |none=>simp
  |some q=>
   have h1:=Mo k q.2
   have h2:=Ez hc
   simp only[Zw]
   omega
theorem TF:(prog.info? 9).map (fun i=>(i.zero,i.size,i.bytes))=some (some (.string ByteArray.empty),1,16):=by kernel_rfl
theorem Mu {ws:List ByteArray}{N i:Nat}{x:ByteArray}(h:ws[i]?=some x):(Lib.cellsOf ws N)[i]?=some (.string x):=by
 have hi:i<ws.length:=(Zb.1 h).1;unfold Lib.cellsOf;rw[Yp,ZD rL];simp[h]
theorem oH{p:Prop}(h:p:=by rw[qU];exact Blk.new _ _ _):p:=h
theorem DS (rb:Nat)(ls:List By)(wd:ByteArray)(k:Nat)(w:World)(h:Dw w rb ls)(hG:Glb w)(hrb:9<=rb)(hwd:wd.size<=100)(hk1:1<=k)(hk:k<=4) :
  Calls prog 105 #[.pointer (some ⟨rb,0,none⟩),.string wd,.int .i64 k] w fun e w'=>(match CP wd.data.toList k ls with
   |none=>Pan e
   |some q=>∃ wb wc,e=.returned (.slice (some ⟨wb,1,none⟩) k wc)∧q.1.length=k∧(∀ i x,q.1[i]?=some x->w'.cell? ⟨wb,i+1,none⟩=some (.string (bA x))∧(bA x).size<=60000)∧k<=wc∧wc<=100001∧(∃ c,Blk w' wb c 9)∧Dw w' rb q.2)∧w.grownBy w' (some rb):=by
 have hA:=CY rb ls wd w h hwd;obtain⟨lb,o,lc,c,h1,h2,h3,h4,h5,h6⟩:=h.out;obtain⟨tp,pe,hE⟩:=hG.err
 cases ha:ahL wd.data.toList ls with
 |false=>
  have ht:CP wd.data.toList k ls=none:=by
   cases ls with
   |nil=>rfl
   |cons l r=>
    change ahP _ l=_ at ha;show (if ahP wd.data.toList l=true then _ else none)=_;rw[ha];rfl
  rw[ht];rw[ha] at hA;go_enter func105,ntmps105;go_wp2_with fail;refine hA.mono ?_;rintro e w1 ⟨rfl,rfl⟩;go_wp2;exact⟨rfl,⟨tp,pe,rfl⟩,Yh _ _⟩
 |true=>
  rw[ha] at hA
  cases ls with
  |nil=>cases ha
  |cons l r=>
   change ahP _ l=_ at ha;have c0:=h1.cell 0;have f0:=h1.frozen 0;simp only[Zw] at c0 h4 h3;have c1:w.cell? ⟨lb,o,none⟩=some (.string (bA l)):=by
    exact sq
   obtain⟨m,hm⟩:=hG.mx;have hs:(bA l).size<=60000:=by rw[Lib.size_eq,Ak];exact h6 l sK
   have q:=Any.strings_SplitN snL TF (bA l) ⟨#[32]⟩ (k+1) m w sH hm sJ sH sH;have hw:Lib.splitB ⟨#[32]⟩ 0 (min (k+1) ((bA l).size+1)-1) (bA l)=(A0 k l).map bA:=by
    rw[show min (k+1) ((bA l).size+1)-1=min k (bA l).size by omega,KJ,Ak]
   rw[hw] at q;obtain⟨ws,hc⟩:∃ ws,Hid (A0 k l=ws):=⟨_,rfl⟩;rw[hc.out] at q;obtain⟨cp,he⟩:∃ cp,Hid (min (k+1) ((bA l).size+1)=cp):=⟨_,rfl⟩;rw[he.out,List.length_map,show ((k+1:Nat):Int)=1+(k:Int) by omega] at q;have hf:cp<=60001:=by rw[<-he.out];omega
   have hl:Hid (∀ x∈ws,(bA x).size<=60000):=fun x hx=>by
    rw[<-hc.out] at hx;have h1:=HK x hx;rw[Lib.size_eq,Ak];have h2:(bA l).size=l.length:=by rw[Lib.size_eq,Ak]
    omega
   have hv:ws.length<=cp:=by
    have h1:=Mo k l;have h2:(bA l).size=l.length:=by rw[Lib.size_eq,Ak]
    rw[hc.out] at h1;rw[<-he.out];omega
   have ht:Hid (CP wd.data.toList k (l::r)=if ws.length=k+1 then some (ws.tail,r) else none):=by
    show (if ahP wd.data.toList l=true then _ else none)=_;rw[if_pos ha,hc.out]
   obtain⟨lc',rfl⟩:∃ x,lc=x+1:=⟨lc-1,sH⟩;by_cases hn:ws.length=k+1
   ·rw[ht.out,if_pos hn];rw[hn] at q;have hp:k+1<=cp:=sH;clear ht hc he;go_enter func105,ntmps105;go_wp2_with fail;refine hA.mono ?_;rintro e w1 ⟨rfl,qU⟩;obtain rfl:w=w1:=qU.symm;go_wp2_with fail;refine q.mono ?_;rintro e w1 ⟨rfl,qU⟩;have hb:Below w.heap.size w w1:=oG;have WB:Blk w1 w.heap.size (Lib.cellsOf (ws.map bA) cp) 9:=oH;clear qU q hA hw;replace c0:=Ab hb c0;have f1:w1.frozen? ⟨rb,0,none⟩=false:=(h1.below hb).frozen 0;replace hE:=Ab hb hE;obtain⟨cp',rfl⟩:∃ x,cp=x+1:=⟨cp-1,sH⟩;have hr:¬ lc'=0:=sH;have ho:¬ cp'=0:=sH;have hq:((k:Int)+1==1+(k:Int))=true:=by rw[beq_iff_eq];omega
    go_wp2;have hg:w.grownBy (w1.setCell ⟨rb,0,none⟩ (.slice (some ⟨lb,o+1,none⟩) r.length lc')) (some rb):=Bk (CD hb) (af_ (Yh _ _) _ _) (fun j e=>by cases e;exact .inr rfl);have hj:w.heap.size≠rb:=by have:=h1.lt;omega
    have hh:lb≠rb:=fun e=>by
     subst e;have:=h1.symm.trans h2;simp at this;exact absurd this.2 sJ
    have RB:Blk (w1.setCell ⟨rb,0,none⟩ (.slice (some ⟨lb,o+1,none⟩) r.length lc')) rb #[.slice (some ⟨lb,o+1,none⟩) r.length lc'] tRd:=by simpa using (h1.below hb).set 0 (.slice (some ⟨lb,o+1,none⟩) r.length lc')
    have LB:=h2.grown hg (by simpa using hh);have WB2:=WB.grown (af_ (Yh _ _) _ _:w1.grownBy (w1.setCell ⟨rb,0,none⟩ (.slice (some ⟨lb,o+1,none⟩) r.length lc')) (some rb)) (by simpa using hj);generalize w1.setCell ⟨rb,0,none⟩ (.slice (some ⟨lb,o+1,none⟩) r.length lc')=W2 at *;go_returns;refine ⟨⟨w.heap.size,cp',rfl,by simp[hn],fun i x hx=>⟨?_,?_⟩,sH,sH,⟨_,WB2⟩,⟨lb,o+1,lc',c,RB,LB,?_,sH,sH,fun y hy=>h6 y rN⟩⟩,hg⟩
    ·rw[WB2.cell];refine Mu ?_;simp at hx;simp[hx]
    ·exact hl.out x (List.mem_of_mem_tail (Zc hx))
    ·have h7:=congrArg List.tail h3;simp only[MW,YD,List.tail_cons] at h7;rw[MW,<-h7]
     cases hd:List.drop o c.toList with
     |nil=>rw[hd] at h3;simp[MW] at h3
     |cons y z=>rw[<-List.drop_drop,hd];simp
   ·rw[ht.out,if_neg hn];have hu:((ws.length:Int)==1+(k:Int))=false:=by rw[ZV];omega
    go_enter func105,ntmps105;go_wp2_with fail;refine hA.mono ?_;rintro e w1 ⟨rfl,qU⟩;obtain rfl:w=w1:=qU.symm;go_wp2_with fail;refine q.mono ?_;rintro e w1 ⟨rfl,qU⟩;have hb:Below w.heap.size w w1:=oG;have WB:Blk w1 w.heap.size (Lib.cellsOf (ws.map bA) cp) 9:=oH;clear qU q hA hw;replace c0:=Ab hb c0;have f1:w1.frozen? ⟨rb,0,none⟩=false:=(h1.below hb).frozen 0;replace hE:=Ab hb hE;go_wp2;exact⟨rfl,⟨tp,pe,rfl⟩,CD hb⟩
end
section
open Go.Shelf Go.RowKit Go.Lib Tryz
def Tm:Go.Shelf.Ren:=⟨fun | 146=>104 | 221=>151 | 268=>188 | 138=>189 | 143=>190 | 195=>221 | 197=>222 | 218=>223 | 219=>100 | 260=>236 | 217=>141 | 225=>142 | 224=>143 | 267=>144 | 266=>181 | 314=>182 | n=>n,fun | 9=>9 | 31=>40 | 3=>3 | 4=>4 | 0=>0 | 105=>273 | 21=>21 | 5=>5 | 46=>174 | 119=>291 | 139=>294 | 138=>293 | 146=>238 | 51=>108 | n=>n,fun | 1=>1 | 3=>7 | 4=>8 | n=>n⟩
theorem spL:Lays.n146 Tryz.prog Tm where
 mixed:=by kernel_rfl
 f138:=Tryz.func189.trans (congrArg some sI)
 f143:=Tryz.func190.trans (congrArg some sI)
 f146:=Tryz.func104.trans (congrArg some sI)
 f195:=Tryz.func221.trans (congrArg some sI)
 f197:=Tryz.func222.trans (congrArg some sI)
 f217:=Tryz.func141.trans (congrArg some sI)
 f218:=Tryz.func223.trans (congrArg some sI)
 f219:=Tryz.func100.trans (congrArg some sI)
 f221:=Tryz.func151.trans (congrArg some sI)
 f224:=Tryz.func143.trans (congrArg some sI)
 f225:=Tryz.func142.trans (congrArg some sI)
 f260:=Tryz.func236.trans (congrArg some sI)
 f266:=Tryz.func181.trans (congrArg some sI)
 f267:=Tryz.func144.trans (congrArg some sI)
 f268:=Tryz.func188.trans (congrArg some sI)
 f314:=Tryz.func182.trans (congrArg some sI)
 t0:=Tryz.underlying0
 a0:=Tryz.isAgg0
 z0:=Tryz.sizeOf0
 v0:=Tryz.zeroValue0
 t3:=Tryz.underlying3
 a3:=Tryz.isAgg3
 z3:=Tryz.sizeOf3
 v3:=Tryz.zeroValue3
 t4:=Tryz.underlying4
 a4:=Tryz.isAgg4
 z4:=Tryz.sizeOf4
 v4:=Tryz.zeroValue4
 t5:=Tryz.underlying5
 a5:=Tryz.isAgg5
 z5:=Tryz.sizeOf5
 v5:=Tryz.zeroValue5
 t9:=Tryz.underlying9
 a9:=Tryz.isAgg9
 z9:=Tryz.sizeOf9
 v9:=Tryz.zeroValue9
 t21:=Tryz.underlying21
 a21:=Tryz.isAgg21
 z21:=Tryz.sizeOf21
 v21:=Tryz.zeroValue21
 t31:=Tryz.underlying40
 a31:=Tryz.isAgg40
 z31:=Tryz.sizeOf40
 v31:=Tryz.zeroValue40
 t46:=Tryz.underlying174
 a46:=Tryz.isAgg174
 z46:=Tryz.sizeOf174
 v46:=Tryz.zeroValue174
 t51:=Tryz.underlying108
 a51:=Tryz.isAgg108
 z51:=Tryz.sizeOf108
 v51:=Tryz.zeroValue108
 t105:=Tryz.underlying273
 a105:=Tryz.isAgg273
 z105:=Tryz.sizeOf273
 v105:=Tryz.zeroValue273
 t119:=Tryz.underlying291
 a119:=Tryz.isAgg291
 z119:=Tryz.sizeOf291
 t138:=Tryz.underlying293
 a138:=Tryz.isAgg293
 z138:=Tryz.sizeOf293
 v138:=Tryz.zeroValue293
 t139:=Tryz.underlying294
 a139:=Tryz.isAgg294
 z139:=Tryz.sizeOf294
 v139:=Tryz.zeroValue294
 t146:=Tryz.underlying238
 a146:=Tryz.isAgg238
 z146:=Tryz.sizeOf238
 v146:=Tryz.zeroValue238
 g1:=by kernel_rfl
 g3:=by kernel_rfl
 g4:=by kernel_rfl
end
section
open Go Go.RowKit Go.BigFrame Tryz
theorem Mg (c:UInt8):∀ (k:Nat) (l:By),(Ew c k l).length<=l.length+1
 |0,l=>by simp[Ew]
 |k+1,l=>by
  rw[Ew]
  cases hc:cutB c l with
  |none=>simp
  |some q=>
   have h1:=Mg c k q.2
   have h2:=Ez hc
   simp only[Zw]
   omega
theorem Jm (s:ByteArray)(w:World)(hs:s.size<=60000)(hG:Glb w) :
  Calls prog 51 #[.string s] w fun e w'=>(match lnsB s.data.toList.length s.data.toList with
   |none=>Pan e
   |some ls=>∃ rb,e=.returned (.pointer (some ⟨rb,0,none⟩))∧w.heap.size<=rb∧Dw w' rb ls∧ls.length<=60000)∧Below w.heap.size w w':=by
 obtain⟨m,hm⟩:=hG.mx;have q:=Any.strings_Split spL TF s ⟨#[10]⟩ m w sH hm sJ;have hb:=Lib.splitB_all ⟨#[10]⟩ sJ 0 _ s rfl;rw[<-hb,KI,List.length_map] at q;clear hb;obtain⟨hf,hg⟩:=JR s.data.toList.length s.data.toList (Zd _)
 cases hL:lnsB s.data.toList.length s.data.toList with
 |none=>
  obtain⟨a,x,e,hx⟩:=hg hL;rw[e] at q;have he:(a++[x]).length=a.length+1:=sK;rw[he] at q;have hh:a.length<=60000:=by have:=Mg 10 s.data.toList.length s.data.toList;rw[e,he] at this;rw[Lib.size_eq] at hs;omega
  go_enter func51,ntmps51;go_wp2_with fail;refine q.mono ?_;rintro e w1 ⟨rfl,qU⟩;have ha:Below w.heap.size w w1:=oG;have LB:Blk w1 w.heap.size (((a++[x]).map bA).map Value.string).toArray 9:=oH;have c1:w1.cell? ⟨w.heap.size,a.length,none⟩=some (.string (bA x)):=by rw[LB.cell];simp
  have hn:(bA x).toList.isEmpty=false:=Bool.eq_false_iff.2 fun e=>hx (by rw[Zu,Ak] at e;exact List.isEmpty_iff.1 e);have ho:¬ (bA x).toList=[]:=fun e=>hx (by rw[Zu,Ak] at e;exact e);obtain⟨tp,pe,hE⟩:=(hG.below ha).err;clear qU LB q hf hg hL hx;generalize bA x=xx at *;go_wp2;exact⟨rfl,⟨tp,pe,rfl⟩,ha⟩
 |some ls=>
  have e:=hf ls hL;rw[e] at q;have he:(ls++[[]]).length=ls.length+1:=sK;rw[he] at q;obtain⟨hc,_⟩:=Hz hL;have hj:ls.length<=60000:=by have:=H2 ls;rw[<-hc] at this;rw[Lib.size_eq] at hs;omega
  have hk:∀ l∈ls,l.length<=60000:=fun l hl=>by have:=H3 hl;rw[<-hc] at this;rw[Lib.size_eq] at hs;omega
  go_enter func51,ntmps51;go_wp2_with fail;refine q.mono ?_;rintro e w1 ⟨rfl,qU⟩;have ha:Below w.heap.size w w1:=oG;have LB:Blk w1 w.heap.size (((ls++[[]]).map bA).map Value.string).toArray 9:=oH;have c1:w1.cell? ⟨w.heap.size,ls.length,none⟩=some (.string ⟨#[]⟩):=by rw[LB.cell];simp;rfl
  clear qU q hf hg hL;go_wp2;have hA:Below w1.heap.size w1 (w1.alloc (.cells #[.slice (some ⟨w.heap.size,0,none⟩) ls.length (ls.length+1)] tRd)):=(Yg _ _).alloc (Zd _) _;have RB:=Blk.new w1 #[.slice (some ⟨w.heap.size,0,none⟩) ls.length (ls.length+1)] tRd;go_returns;refine ⟨⟨w1.heap.size,rfl,ha.size,⟨w.heap.size,0,ls.length+1,_,RB,LB.below hA,?_,sH,sH,hk⟩,hj⟩,Aa ha hA⟩;simp[MW,Function.comp_def]
def Od (D:List Nat)(a0:Act)(Φ:(Nat->Value)->World->Prop)(Ψ:List PanicEntry->World->Prop):Exit->Act->World->Prop
 |.normal,a,u=>∃ x,a=AY x D a0∧Φ x u
 |.panic c,a,u=>a.defers=a0.defers∧Ψ c u
 |_,_,_=>False
theorem FO {P:Program}{l:List Oper}{Q:Exit->Act->World->Prop}{id:Nat}{a0:Act}{w:World}(S:World->Prop)(n:Nat)(D:List Nat)(Φ:(Nat->Value)->World->Prop)(Ψ:List PanicEntry->World->Prop)(hm:P.follows .mixedOrders=true)(hn:l.toArray.size=n)
  (h1:wpAnyH P .any l.toArray (Od D a0 Φ Ψ) S n (Array.replicate n false) a0 w.drew) (h2:∀ x u,Φ x u->Q .normal (AY x D a0) u) (h3:∀ c a u,a.defers=a0.defers->Ψ c u->Q (.panic c) a u):(Code.region id l.toArray true).wp P Q a0 w:=by
 refine Code.wp_mono ?_ (aC_ (S:=S) n hm hn h1);intro e a u h
 cases e with
 |normal=>obtain⟨x,rfl,hx⟩:=h;exact h2 x u hx
 |panic c=>exact h3 c a u h.1 h.2
 |_=>exact h.elim
theorem IG {D:List Nat}{a0 a:Act}{Φ:(Nat->Value)->World->Prop}{Ψ:List PanicEntry->World->Prop}{u:World}(hA:a=AY (fun k=>a.eval (.tmp k)) D a0)(hΦ:Φ (fun k=>a.eval (.tmp k)) u):Od D a0 Φ Ψ .normal a u:=⟨_,hA,hΦ⟩
theorem HA {α:Type}(wd:By)(f:By->Option α){ls:List By}(h:ahL wd ls=false):manyP wd f ls=some ([],ls):=by
 cases ls with
 |nil=>rfl
 |cons l r=>rw[manyP,if_neg];intro e;rw[show ahL wd (l::r)=ahP wd l from rfl,e] at h;cases h
theorem U5 {P:Program}{D:List Nat}{a0:Act}{Φ:(Nat->Value)->World->Prop}{Ψ:List PanicEntry->World->Prop}{md:Region.Mode}{S:World->Prop}{l:List Oper}{i:Nat}{oi:Oper}{v:Value}{fuel:Nat}{listed:Array Bool}{a:Act}{w:World}(hi:l[i]?=some oi)
  (hs:Region.noSelect l.toArray=true) (hf:Region.free md l.toArray listed i=true) (hr:(Region.ready md l.toArray listed).contains i=true)
  (hy:YieldsIf P l.toArray S oi v a) (hS:S w)
  (h:wpAnyH P md l.toArray (Od D a0 Φ Ψ) S fuel (listed.setIfInBounds i true) (a.put oi.dst v) w):wpAnyH P md l.toArray (Od D a0 Φ Ψ) S (fuel+1) listed a w:=
 NX hi hs hf hr (fun c a w h=>⟨by have:=h.1;revert this;cases oi.dst<;>exact id,h.2⟩) hy hS h
theorem tkp {P:Program}{D:List Nat}{a0:Act}{Φ:(Nat->Value)->World->Prop}{Ψ:List PanicEntry->World->Prop}{md:Region.Mode}{S:World->Prop}{l:List Oper}(i:Nat){oi:Oper}{v:Value}{fuel:Nat}{listed li:Array Bool}{a b:Act}{w:World}(h:wpAnyH P md l.toArray (Od D a0 Φ Ψ) S fuel li b w)(hi:l[i]?=some oi:=by rfl)
  (hB:(Region.noSelect l.toArray&&Region.free md l.toArray listed i&&(Region.ready md l.toArray listed).contains i)=true:=by kernel_rfl) (hw:Region.wanted oi (yielded l.toArray a.tmps)=true:=by rfl)
  (hy:∀ w,S w->(execOp a.eval oi).run P w=.ok (.value v) w:=by (intro u hu;(try dsimp only at hu);go_simp<;>with_reducible rfl)) (hS:S w:=by first | assumption | trivial)
  (hl:listed.setIfInBounds i true=li:=by (try simp only[Yj,Yq,Yr]);rfl) (ha:a.put oi.dst v=b:=by (try simp only[Act.put,Yj,Yq,Yr]);rfl):wpAnyH P md l.toArray (Od D a0 Φ Ψ) S (fuel+1) listed a w:=by
 subst hl ha;simp only[Zf] at hB;exact U5 hi hB.1.1 hB.1.2 hB.2 (.inl ⟨hw,hy⟩) hS h
theorem EI {wd:By}{k:Nat}{l:By}{r:List By}(ha:ahP wd l=true)(h:CP wd k (l::r)=none):(A0 k l).length≠k+1:=fun e=>by
 unfold CP at h
 simp only at h
 rw[if_pos ha,if_pos e] at h
 cases h
theorem EJ {wd:By}{k:Nat}{l:By}{r:List By}{q:List By×List By}(ha:ahP wd l=true)(h:CP wd k (l::r)=some q):(A0 k l).length=k+1∧q=((A0 k l).tail,r):=by
 unfold CP at h;simp only at h;rw[if_pos ha] at h;split at h
 ·next e=>exact⟨e,(Zi h).symm⟩
 ·cases h
theorem Vp {α:Type}:∀ {l:List α},l.length=5->∃ x a b c d,l=[x,a,b,c,d]
 |[x,a,b,c,d],_=>⟨x,a,b,c,d,rfl⟩
theorem mu{p:Prop}(h:p:=by
 split
 ·next e=>rw[e] at this;simp at this
 ·rfl):p:=h
theorem Sc {wd l:By}{r:List By}(ha:ahP wd l=true)(h:CP wd 4 (l::r)=none):ctP l=none:=by
 have:=EI ha h;unfold ctP;exact mu
theorem Sd {wd l:By}{r:List By}{q:List By×List By}(ha:ahP wd l=true)(h:CP wd 4 (l::r)=some q):∃ a v f n,q=([a,v,f,n],r)∧ctP l=(numP a).bind fun a=>(numP v).bind fun v=>(numP n).map fun n=>⟨⟨a,v,bA f⟩,n⟩:=by
 obtain⟨h1,rfl⟩:=EJ ha h;obtain⟨x,a,v,f,n,e⟩:=Vp h1;refine ⟨a,v,f,n,oV,?_⟩;unfold ctP;rw[e]
theorem Ga {α:Type}{wd:By}{f:By->Option α}{l:By}{r:List By}(ha:ahP wd l=true):manyP wd f (l::r)=(f l).bind fun x=>(manyP wd f r).map fun q=>(x::q.1,q.2):=by rw[manyP,if_pos ha]
theorem Pv {w:World}{b:Nat}{c0 c1 c2:Value}{t:TypeId}(h:Blk w b #[c0,c1,c2] t):w.cell? ⟨b,0,none⟩=some c0∧w.cell? ⟨b,1,none⟩=some c1∧w.cell? ⟨b,2,none⟩=some c2:=⟨h.cell 0,h.cell 1,h.cell 2⟩
theorem UZ {w:World}{b:Nat}{c0 c1 c2:Value}{t:TypeId}(h:Blk w b #[c0,c1,c2] t)(x y z:Value):Blk (((w.setCell ⟨b,0,none⟩ x).setCell ⟨b,1,none⟩ y).setCell ⟨b,2,none⟩ z) b #[x,y,z] t∧w.grownBy (((w.setCell ⟨b,0,none⟩ x).setCell ⟨b,1,none⟩ y).setCell ⟨b,2,none⟩ z) (some b):=
 ⟨by have:=((h.set 0 x).set 1 y).set 2 z;simpa using this,af_ (af_ (af_ (Yh _ _) _ _) _ _) _ _⟩
theorem lz{p:Prop}(h:p:=by
 obtain⟨t0,t1,t2⟩:=Pv FB;have s0:=FB.frozen 0;have s1:=FB.frozen 1;have s2:=FB.frozen 2;refine Ag (i:=13) sI rfl (fun K hK=>?_);go_simp;obtain⟨F9,zE⟩:=UZ FB (.int .i64 n1) (.int .i64 n2) (.string (bA xf));have ki:=ao_ zr zE qJ.out;refine hK.out _ _ (qI _ ki) (fun hHeld=>?_);clear hK K;(try simp only[Act.put,Yj,Yq,Yr]);refine wpAnyH_done sI ?_ _;refine IG (by simp only[AY,YE,List.foldl_nil,Act.put,Act.eval,Yj,Yq,Yr,Array.getD_eq_getD_getElem?,Yp,Yt,Yo,Yw]) ?_
 exact⟨ob,n1,n2,(by first | rfl | assumption),(by simp only[Act.eval,Array.getD_eq_getD_getElem?,Yp,Yt,Yo,Yw]),(by first | rfl | assumption),F9,ki,qJ.out⟩):p:=h
theorem mc{p:Prop}(h:p:=by
 rintro c a' u hd ⟨⟨tp,pe,rfl⟩,hU,kx⟩;have qd:M=none:=by
  rw[zy.out];rcases kx with h | h
  ·rw[h];rfl
  ·rw[h];cases numP xa<;>rfl
 subst qd;go_wp2
 exact⟨hd,⟨tp,pe,rfl⟩,BJ qv hU⟩):p:=h
theorem pr{p:Prop}(h:p:=by
 rw[qC] at hm;obtain⟨tp,pe,rfl⟩:=hm
 exact⟨rfl,⟨tp,pe,rfl⟩,zr,(by first | rfl | exact .inr rfl | exact .inr qC)⟩):p:=h
theorem oq{p:Prop}(h:p:=by show _<=_;rw[qo];exact qN.size):p:=h
theorem oY{p:Prop}(h:p:=by show _<=_;rw[qo];exact qw.size):p:=h
theorem fv{p:Prop}(h:p:=by first | rfl | exact .inl rfl | exact .inl qE):p:=h
theorem HN (rb:Nat)(ls:List By)(wd:ByteArray)(w:World)(h:Dw w rb ls)(hG:Glb w)(hrb:9<=rb)(hwd:wd.size<=100)(hl:ls.length<=60000) :
  Calls prog 109 #[.pointer (some ⟨rb,0,none⟩),.string wd] w fun e w'=>(match manyP wd.data.toList ctP ls with
   |none=>Pan e
   |some q=>∃ a n cap,e=.returned (.slice a n cap)∧Ac Ct.cs 4 tC w' w.heap.size a n cap q.1∧Dw w' rb q.2)∧w.grownBy w' (some rb):=by
 obtain⟨M,hM⟩:∃ M,Hid (manyP wd.data.toList ctP ls=M):=⟨_,rfl⟩;rw[hM.out];have hH:=h.lt;obtain⟨i0,hy,hC,hD,hE⟩:=info_parts Qg;go_enter func109,ntmps109;go_wp2_with fail;go_loopw [5] (fun av wr=>∃ (done:List Ct) (rest:List By) (a:Option Addr) (n cap:Nat),av=.slice a n cap∧Ac Ct.cs 4 tC wr w.heap.size a n cap done∧Dw wr rb rest∧n+rest.length<=60000∧Hid (M=(manyP wd.data.toList ctP rest).map fun q=>(done++q.1,q.2))∧w.grownBy wr (some rb)) (fun _ wr=>lnV (wr.cell? ⟨rb,0,none⟩))
 case atStart=>exact⟨[],ls,none,0,0,rfl,aB_,h,sH,by show _=_;rw[<-hM.out];cases manyP wd.data.toList ctP ls<;>rfl,Yh _ _⟩
 case round=>
  obtain⟨done,rest,a,n,cap,rfl,R,D,hn,hI,hg⟩:=hrel;have G:=hG.grown hg hrb;have hN:=hg.size;go_wp2_with fail;refine (CY rb rest wd wr D hwd).mono ?_;rintro e w1 ⟨rfl,hz⟩;obtain rfl:wr=w1:=hz.symm
  cases ho:ahL wd.data.toList rest with
  |false=>
   have qd:M=some (done,rest):=by rw[hI.out,HA _ _ ho];simp
   subst qd;go_wp2;go_returns;exact⟨⟨a,n,cap,rfl,R,D⟩,hg⟩
  |true=>
   cases rest with
   |nil=>cases ho
   |cons l r=>
    have ha:ahP wd.data.toList l=true:=ho;have q:=DS rb (l::r) wd 4 wr D G hrb hwd sH sH
    cases ht:CP wd.data.toList 4 (l::r) with
    |none=>
     rw[ht] at q;have qd:M=none:=by rw[hI.out,Ga ha,Sc ha ht];rfl
     subst qd;go_wp2_with fail;refine q.mono ?_;rintro e w2 ⟨⟨tp,pe,rfl⟩,hh⟩;go_wp2;exact⟨rfl,⟨tp,pe,rfl⟩,Bk hg hh (fun k e=>by cases e;exact .inr rfl)⟩
    |some qq=>
     rw[ht] at q;obtain⟨xa,xv,xf,xn,rfl,hs⟩:=Sd ha ht;have zy:Hid (M=(ctP l).bind fun x=>(manyP wd.data.toList ctP r).map fun q=>(done++x::q.1,q.2)):=by
      show _=_;rw[hI.out,Ga ha]
      cases ctP l with
      |none=>rfl
      |some x=>cases manyP wd.data.toList ctP r<;>rfl
     rw[hs] at zy;clear hs hI;go_wp2_with fail;refine q.mono ?_;rintro e w2 ⟨⟨wb,wc,rfl,_,hk,hA,hB,⟨hO,WB⟩,D2⟩,hh⟩;obtain⟨c1,z1⟩:=hk 0 xa rfl;obtain⟨c2,z2⟩:=hk 1 xv rfl;obtain⟨c3,z3⟩:=hk 2 xf rfl;obtain⟨c4,z4⟩:=hk 3 xn rfl;simp only[Zq,Nat.reduceAdd] at c1 c2 c3 c4;clear hk q ho ht;have G2:=G.grown hh hrb;have R2:=R.off hh (fun ad e=>by have:=(R.block ad e).1;simp;omega);have qv:=Bk hg hh (fun k e=>by cases e;exact .inr rfl);have hL:=qv.size;clear hg hh R G;have D0:=D;clear D;go_upto_region 4 with fail;have qI:∀ u,Below w2.heap.size w2 u->(fun u=>u.cell? ⟨wb,1,none⟩=some (.string (bA xa))∧u.cell? ⟨wb,2,none⟩=some (.string (bA xv))∧u.cell? ⟨wb,3,none⟩=some (.string (bA xf))∧u.cell? ⟨wb,4,none⟩=some (.string (bA xn))) u:=fun u hu=>⟨Ab hu c1,Ab hu c2,Ab hu c3,Ab hu c4⟩;refine FO (fun u=>u.cell? ⟨wb,1,none⟩=some (.string (bA xa))∧u.cell? ⟨wb,2,none⟩=some (.string (bA xv))∧u.cell? ⟨wb,3,none⟩=some (.string (bA xf))∧u.cell? ⟨wb,4,none⟩=some (.string (bA xn))) 14 [14,15,16,17,18,19,20,21,22,23,24,25,7] (fun x u=>∃ ob n1 n2,numP xa=some n1∧x 7=.pointer (some ⟨ob,0,none⟩)∧numP xv=some n2∧Blk u ob #[.int .i64 n1,.int .i64 n2,.string (bA xf)] tO∧Below w2.heap.size w2 u∧w2.heap.size<=ob) (fun c u=>(∃ tp pe,c=[{v:=.iface tp pe,recovered:=false}])∧Below w2.heap.size w2 u∧(numP xa=none∨numP xv=none)) sI rfl ?walk4 ?rest4 ?pan4
     case walk4=>
      have qw:Below w2.heap.size w2 w2.drew:=(Yg _ _).drew;generalize w2.drew=WD at qw ⊢;have hx:=qI WD qw;refine tkp 0 ?_;refine tkp 1 ?_;refine tkp 2 ?_;refine tkp 4 ?_;refine tkp 5 ?_;refine tkp 6 ?_;refine tkp 8 ?_;refine tkp 9 ?_;refine tkp 10 ?_;refine Gv (i:=3) (j:=12) sI rfl rfl (fun K hK=>?_) (fun K hK=>?_)
      ·skip;go_simp;refine (Ap (bA xa) _ sH (G2.below qw)).mono ?_;rw[Ak];rintro e u1 ⟨hm,hb⟩;have qN:=Aa qw hb;(try replace FB:=FB.below hb);clear hb
       cases qE:numP xa with
       |none=>
        rw[qE] at hm;obtain⟨tp,pe,rfl⟩:=hm;exact⟨rfl,⟨tp,pe,rfl⟩,qN,fv⟩
       |some n1=>
        rw[qE] at hm;subst hm;dsimp only;refine hK.out _ _ (qI u1 qN) (fun hHeld=>?_);clear hK K;(try simp only[Act.put,Yj,Yq,Yr]);refine Gv (i:=7) (j:=12) sI rfl rfl (fun K hK=>?_) (fun K hK=>?_)
        ·skip;go_simp;refine (Ap (bA xv) _ sH (G2.below qN)).mono ?_;rw[Ak];rintro e u2 ⟨hm,hb⟩;have hc:=Aa qN hb;(try replace FB:=FB.below hb);clear hb
         cases qC:numP xv with
         |none=>
          rw[qC] at hm;obtain⟨tp,pe,rfl⟩:=hm;exact⟨rfl,⟨tp,pe,rfl⟩,hc,(by first | rfl | exact .inr rfl | exact .inr qC)⟩
         |some n2=>
          rw[qC] at hm;subst hm;dsimp only;refine hK.out _ _ (qI u2 hc) (fun hHeld=>?_);clear hK K;(try simp only[Act.put,Yj,Yq,Yr]);refine tkp 11 ?_;refine Ag (i:=12) sI rfl (fun K hK=>?_);go_simp;have hf:Below u2.heap.size u2 (u2.alloc (.cells #[.int .i64 0,.int .i64 0,.string ⟨#[]⟩] tO)):=(Yg _ _).alloc (Zd _) _;obtain⟨ob,qo⟩:∃ ob,ob=u2.heap.size:=⟨_,rfl⟩;have FB:Blk (u2.alloc (.cells #[.int .i64 0,.int .i64 0,.string ⟨#[]⟩] tO)) ob #[.int .i64 0,.int .i64 0,.string ⟨#[]⟩] tO:=Blk.new' _ _ _ _ qo;have qJ:Hid (w2.heap.size<=ob):=by show _<=_;rw[qo];exact hc.size
          rw[<-qo];clear qo;have zr:=Aa hc hf;clear hf;refine hK.out _ _ (qI _ zr) (fun hHeld=>?_);clear hK K;(try simp only[Act.put,Yj,Yq,Yr]);generalize u2.alloc (.cells #[.int .i64 0,.int .i64 0,.string ⟨#[]⟩] tO)=u3 at *;exact lz
        ·skip;go_simp;have hf:Below u1.heap.size u1 (u1.alloc (.cells #[.int .i64 0,.int .i64 0,.string ⟨#[]⟩] tO)):=(Yg _ _).alloc (Zd _) _;obtain⟨ob,qo⟩:∃ ob,ob=u1.heap.size:=⟨_,rfl⟩;have FB:Blk (u1.alloc (.cells #[.int .i64 0,.int .i64 0,.string ⟨#[]⟩] tO)) ob #[.int .i64 0,.int .i64 0,.string ⟨#[]⟩] tO:=Blk.new' _ _ _ _ qo;have qJ:Hid (w2.heap.size<=ob):=oq;rw[<-qo];clear qo;have hc:=Aa qN hf;clear hf;refine hK.out _ _ (qI _ hc) (fun hHeld=>?_);clear hK K;(try simp only[Act.put,Yj,Yq,Yr]);generalize u1.alloc (.cells #[.int .i64 0,.int .i64 0,.string ⟨#[]⟩] tO)=u2 at *;refine Ag (i:=7) sI rfl (fun K hK=>?_);go_simp;refine (Ap (bA xv) _ sH (G2.below hc)).mono ?_;rw[Ak];rintro e u3 ⟨hm,hb⟩;have zr:=Aa hc hb;(try replace FB:=FB.below hb);clear hb
         cases qC:numP xv with
         |none=>
          exact pr
         |some n2=>
          rw[qC] at hm;subst hm;dsimp only;refine hK.out _ _ (qI u3 zr) (fun hHeld=>?_);clear hK K;(try simp only[Act.put,Yj,Yq,Yr]);refine tkp 11 ?_;exact lz
      ·skip;go_simp;have hf:Below WD.heap.size WD (WD.alloc (.cells #[.int .i64 0,.int .i64 0,.string ⟨#[]⟩] tO)):=(Yg _ _).alloc (Zd _) _;obtain⟨ob,qo⟩:∃ ob,ob=WD.heap.size:=⟨_,rfl⟩;have FB:Blk (WD.alloc (.cells #[.int .i64 0,.int .i64 0,.string ⟨#[]⟩] tO)) ob #[.int .i64 0,.int .i64 0,.string ⟨#[]⟩] tO:=Blk.new' _ _ _ _ qo;have qJ:Hid (w2.heap.size<=ob):=oY;rw[<-qo];clear qo;have qN:=Aa qw hf;clear hf;refine hK.out _ _ (qI _ qN) (fun hHeld=>?_);clear hK K;(try simp only[Act.put,Yj,Yq,Yr]);generalize WD.alloc (.cells #[.int .i64 0,.int .i64 0,.string ⟨#[]⟩] tO)=u1 at *;refine Ag (i:=3) sI rfl (fun K hK=>?_);go_simp;refine (Ap (bA xa) _ sH (G2.below qN)).mono ?_;rw[Ak];rintro e u2 ⟨hm,hb⟩;have hc:=Aa qN hb;(try replace FB:=FB.below hb);clear hb
       cases qE:numP xa with
       |none=>
        rw[qE] at hm;obtain⟨tp,pe,rfl⟩:=hm;exact⟨rfl,⟨tp,pe,rfl⟩,hc,fv⟩
       |some n1=>
        rw[qE] at hm;subst hm;dsimp only;refine hK.out _ _ (qI u2 hc) (fun hHeld=>?_);clear hK K;(try simp only[Act.put,Yj,Yq,Yr]);refine Ag (i:=7) sI rfl (fun K hK=>?_);go_simp;refine (Ap (bA xv) _ sH (G2.below hc)).mono ?_;rw[Ak];rintro e u3 ⟨hm,hb⟩;have zr:=Aa hc hb;(try replace FB:=FB.below hb);clear hb
        cases qC:numP xv with
        |none=>
         exact pr
        |some n2=>
         rw[qC] at hm;subst hm;dsimp only;refine hK.out _ _ (qI u3 zr) (fun hHeld=>?_);clear hK K;(try simp only[Act.put,Yj,Yq,Yr]);refine tkp 11 ?_;exact lz
     case pan4=>
      exact mc
     case rest4=>
      rintro x u ⟨ob,n1,n2,qE,e7,qC,OB,hU,hJ⟩;rw[qE,qC] at zy;simp only[AY,YE,List.foldl_nil,e7];(try simp only[Act.put,Yj,Yq,Yr]);generalize x 14=s14;generalize x 15=s15;generalize x 16=s16;generalize x 17=s17;generalize x 18=s18;generalize x 19=s19;generalize x 20=s20;generalize x 21=s21;generalize x 22=s22;generalize x 23=s23;generalize x 24=s24;generalize x 25=s25;clear e7 x;replace c4:=Ab hU c4;replace D2:=D2.below hU;replace WB:=WB.below hU;replace G2:=G2.below hU;replace R2:=R2.below hU;replace qv:=BJ qv hU;have hj:=hU.size;clear c1 c2 c3 qI qE qC hU;simp only[Zw] at hn;go_upto_region 5 with fail;have qw:Below u.heap.size u u.drew:=(Yg _ _).drew;replace c4:=Ab qw c4;replace D2:=D2.below qw;replace WB:=WB.below qw;replace G2:=G2.below qw;replace R2:=R2.below qw;replace OB:=OB.below qw;replace qv:=BJ qv qw;replace hj:=Zl hj qw.size;have hx:(fun u=>(u.cell? ⟨ob,0,none⟩=some (.int .i64 n1)∧u.cell? ⟨ob,1,none⟩=some (.int .i64 n2)∧u.cell? ⟨ob,2,none⟩=some (.string (bA xf)))∧u.cell? ⟨wb,4,none⟩=some (.string (bA xn))) u.drew:=⟨Pv OB,c4⟩;refine aC_ (S:=(fun u=>(u.cell? ⟨ob,0,none⟩=some (.int .i64 n1)∧u.cell? ⟨ob,1,none⟩=some (.int .i64 n2)∧u.cell? ⟨ob,2,none⟩=some (.string (bA xf)))∧u.cell? ⟨wb,4,none⟩=some (.string (bA xn)))) 10 sI rfl ?_;generalize u.drew=y0 at *;clear qw;refine tk 0 ?_;refine tk 1 ?_;refine tk 2 ?_;refine tk 3 ?_;refine tk 4 ?_;refine Ag (i:=5) sI rfl (fun K hK=>?_);go_simp;refine (Ap (bA xn) _ sH G2).mono ?_;rw[Ak];rintro e y1 ⟨hm,hb⟩;replace c4:=Ab hb c4;replace D2:=D2.below hb;replace WB:=WB.below hb;replace R2:=R2.below hb;replace OB:=OB.below hb;replace qv:=BJ qv hb;replace hj:=Zl hj hb.size;clear hb G2
      cases hv:numP xn with
      |none=>
       rw[hv] at hm zy;obtain⟨tp,pe,rfl⟩:=hm;have qd:M=none:=zy.out;subst qd;go_wp2;exact⟨rfl,⟨tp,pe,rfl⟩,qv⟩
      |some n4=>
       rw[hv] at hm zy;subst hm;dsimp only;refine hK.out _ _ ⟨Pv OB,c4⟩ (fun hHeld=>?_);clear hK K;(try simp only[Act.put,Yj,Yq,Yr]);refine tk 6 ?_;refine Ag (i:=7) sI rfl (fun K hK=>?_);go_simp;have he:Below y1.heap.size y1 (y1.alloc (.cells (Ct.cs (⟨⟨n1,n2,bA xf⟩,n4⟩:Ct)).toArray tC)):=(Yg _ _).alloc (Zd _) _;have L4:=CK FV y1 (⟨⟨n1,n2,bA xf⟩,n4⟩:Ct) tC _ rfl;replace c4:=Ab he c4;replace D2:=D2.below he;replace WB:=WB.below he;replace R2:=R2.below he;replace OB:=OB.below he;replace qv:=BJ qv he;replace hj:=Zl hj he.size;change K _ (y1.alloc (.cells (Ct.cs (⟨⟨n1,n2,bA xf⟩,n4⟩:Ct)).toArray tC));generalize y1.alloc (.cells (Ct.cs (⟨⟨n1,n2,bA xf⟩,n4⟩:Ct)).toArray tC)=y2 at *;clear he;refine hK.out _ _ ⟨Pv OB,c4⟩ (fun hHeld=>?_);clear hK K;(try simp only[Act.put,Yj,Yq,Yr]);refine Ag (i:=8) sI rfl (fun K hK=>?_);refine aJ_ rfl (mX_ _ _ 31 rfl w.heap.size tC i0 (.agg #[.int .i64 0,.int .i64 0,.string .empty,.int .i64 0]) 40 underlying31 hy hC hD hE rfl sJ FV Ki a n cap _ rfl R2 _ 1 1 [(⟨⟨n1,n2,bA xf⟩,n4⟩:Ct)] rfl L4 (fun ad h=>sV) (fun h=>sY) (n+1) rfl sO sH sH (fun a4 cap4 w4 R4 hp hF=>?_));have hr:=R2.rowTy (m:=n) (k:=cap);have D4:=D2.ty hp hr sJ sJ;have O4:=OB.ty hp hr sJ;have hq:=Bk qv hp (fun k e=>.inl (CI (fun ad e=>(R2.block ad e).1) k e));have c5:w4.cell? ⟨wb,4,none⟩=some (.string (bA xn)):=by rw[(WB.ty hp hr sJ).cell,<-WB.cell];exact c4
       have hw:Hid (M=(manyP wd.data.toList ctP r).map fun q=>((done++[(⟨⟨n1,n2,bA xf⟩,n4⟩:Ct)])++q.1,q.2)):=by
        show _=_;rw[zy.out];show (manyP wd.data.toList ctP r).map _=_;simp
       refine hK.out _ _ ⟨Pv O4,c5⟩ (fun hHeld=>?_);clear hK K;(try simp only[Act.put,Yj,Yq,Yr]);refine tk 9 ?_;refine wpAnyH_done sI ?_ _;clear hHeld;go_wp2;go_roundw
       case rel=>exact⟨done++[(⟨⟨n1,n2,bA xf⟩,n4⟩:Ct)],r,a4,n+1,cap4,rfl,R4,D4,sH,hw,hq⟩
       case measure=>(rw[D4.len,D0.len];simp)
end
section
open Go Tryz
theorem EF {α:Type}{wd:By}{f:By->Option α}:∀ {ls:List By} {q:List α×List By},manyP wd f ls=some q->q.2.length+q.1.length<=ls.length
 |[],q,h=>by obtain rfl:=Zi h;simp
 |l::r,q,h=>by
  rw[manyP] at h
  split at h
  ·cases hf:f l with
   |none=>rw[hf] at h;cases h
   |some x=>
    rw[hf] at h
    cases hm:manyP wd f r with
    |none=>rw[hm] at h;cases h
    |some p=>
     rw[hm] at h
     obtain rfl:=Zi h
     have:=EF hm
     simp
     omega
  ·obtain rfl:=Zi h;simp
theorem HO:∀ (n k k':Nat) (ls:List By),ls.length<=n->ls.length<=k->ls.length<=k'->itemsP k ls=itemsP k' ls
 |0,k,k',ls,h,_,_=>by
  obtain rfl:=Zt (Nat.le_zero.1 h)
  cases k<;>cases k'<;>rfl
 |n+1,k,k',[],h,h1,h2=>by cases k<;>cases k'<;>rfl
 |n+1,k,k',l::r,h,h1,h2=>by
  simp only[Zw] at h h1 h2
  obtain⟨k,rfl⟩:∃ j,k=j+1:=⟨k-1,sH⟩
  obtain⟨k',rfl⟩:∃ j,k'=j+1:=⟨k'-1,sH⟩
  rw[itemsP,itemsP]
  split
  ·cases fileP l with
   |none=>rfl
   |some nm=>
    cases hm:manyP partK ptP r with
    |none=>rfl
    |some q=>
     have:=EF hm
     simp only[YO]
     rw[HO n k k' q.2 sH sH sH]
  ·rfl
theorem Oy {ls:List By}(h:ahL BZ ls=false):itemsP ls.length ls=some ([],ls):=by
 cases ls with
 |nil=>rfl
 |cons l r=>rw[Zw,itemsP,if_neg];intro e;rw[show ahL BZ (l::r)=ahP BZ l from rfl,e] at h;cases h
theorem MC {l:By}{r:List By}(h:ahP BZ l=true):itemsP (l::r).length (l::r)=(fileP l).bind fun nm=>(manyP partK ptP r).bind fun q=>(itemsP q.2.length q.2).map fun s=>(⟨nm,q.1⟩::s.1,s.2):=by
 rw[Zw,itemsP,if_pos h]
 cases fileP l with
 |none=>rfl
 |some nm=>
  cases hm:manyP partK ptP r with
  |none=>rfl
  |some q=>
   have:=EF hm;simp only[YO];rw[HO _ r.length q.2.length q.2 (Zd _) sH (Zd _)]
theorem FZ:∀ {k:Nat} {ls:List By} {q:List It×List By},itemsP k ls=some q->q.2.length+q.1.length<=ls.length∧∀ x∈q.1,x.ps.length<=ls.length
 |0,ls,q,h=>by obtain rfl:=Zi h;simp
 |k+1,[],q,h=>by obtain rfl:=Zi h;simp
 |k+1,l::r,q,h=>by
  rw[itemsP] at h
  split at h
  ·cases hf:fileP l with
   |none=>rw[hf] at h;cases h
   |some nm=>
    rw[hf] at h
    simp only[YO] at h
    cases hm:manyP partK ptP r with
    |none=>rw[hm] at h;cases h
    |some p=>
     rw[hm] at h
     simp only[YO] at h
     have h1:=EF hm
     cases hi:itemsP k p.2 with
     |none=>rw[hi] at h;cases h
     |some s=>
      rw[hi] at h
      obtain rfl:=Zi h
      obtain⟨h2,h3⟩:=FZ hi
      refine ⟨sN,fun x hx=>?_⟩
      rcases Zn.1 hx with rfl | hx
      ·simp;omega
      ·have:=h3 x hx;simp;omega
  ·obtain rfl:=Zi h;simp
theorem I9:∀ (n k k':Nat) (ls:List By),ls.length<=n->ls.length<=k->ls.length<=k'->volsP k ls=volsP k' ls
 |0,k,k',ls,h,_,_=>by
  obtain rfl:=Zt (Nat.le_zero.1 h)
  cases k<;>cases k'<;>rfl
 |n+1,k,k',[],h,h1,h2=>by cases k<;>cases k'<;>rfl
 |n+1,k,k',l::r,h,h1,h2=>by
  simp only[Zw] at h h1 h2
  obtain⟨k,rfl⟩:∃ j,k=j+1:=⟨k-1,sH⟩
  obtain⟨k',rfl⟩:∃ j,k'=j+1:=⟨k'-1,sH⟩
  rw[volsP,volsP]
  split
  ·cases voP l with
   |none=>rfl
   |some nm=>
    cases hm:itemsP r.length r with
    |none=>rfl
    |some q=>
     have:=(FZ hm).1
     simp only[YO]
     rw[I9 n k k' q.2 sH sH sH]
  ·rfl
theorem Rv {ls:List By}(h:ahL Ei ls=false):volsP ls.length ls=some ([],ls):=by
 cases ls with
 |nil=>rfl
 |cons l r=>rw[Zw,volsP,if_neg];intro e;rw[show ahL Ei (l::r)=ahP Ei l from rfl,e] at h;cases h
def HS (l:By)(r:List By):Option (Vo×List By):=(voP l).bind fun h=>(itemsP r.length r).map fun q=>(⟨h.1,h.2.1,h.2.2,q.1⟩,q.2)
theorem O7 {l:By}{r:List By}(h:ahP Ei l=true):volsP (l::r).length (l::r)=(HS l r).bind fun v=>(volsP v.2.length v.2).map fun s=>(v.1::s.1,s.2):=by
 rw[Zw,volsP,if_pos h,HS]
 cases voP l with
 |none=>rfl
 |some nm=>
  cases hm:itemsP r.length r with
  |none=>rfl
  |some q=>
   have:=(FZ hm).1;simp only[YO,Option.map_some];rw[I9 _ r.length q.2.length q.2 (Zd _) sH (Zd _)]
theorem Vn {α:Type}:∀ {l:List α},l.length=2->∃ x a,l=[x,a]
 |[x,a],_=>⟨x,a,rfl⟩
theorem US {α:Type}:∀ {l:List α},l.length=3->∃ x a b,l=[x,a,b]
 |[x,a,b],_=>⟨x,a,b,rfl⟩
theorem UT {α:Type}:∀ {l:List α},l.length=4->∃ x a b c,l=[x,a,b,c]
 |[x,a,b,c],_=>⟨x,a,b,c,rfl⟩
theorem Sv {wd l:By}{r:List By}(ha:ahP wd l=true)(h:CP wd 1 (l::r)=none):fileP l=none:=by
 have:=EI ha h;unfold fileP;exact mu
theorem Sw {wd l:By}{r:List By}{q:List By×List By}(ha:ahP wd l=true)(h:CP wd 1 (l::r)=some q):∃ a,q=([a],r)∧fileP l=some (bA a):=by
 obtain⟨h1,rfl⟩:=EJ ha h;obtain⟨x,a,e⟩:=Vn h1;refine ⟨a,oV,?_⟩;unfold fileP;rw[e]
theorem SQ {wd l:By}{r:List By}(ha:ahP wd l=true)(h:CP wd 3 (l::r)=none):ptP l=none:=by
 have:=EI ha h;unfold ptP;exact mu
theorem SR {wd l:By}{r:List By}{q:List By×List By}(ha:ahP wd l=true)(h:CP wd 3 (l::r)=some q):∃ a f n,q=([a,f,n],r)∧ptP l=(numP a).bind fun a=>(numP f).bind fun f=>(numP n).map fun n=>⟨a,f,n⟩:=by
 obtain⟨h1,rfl⟩:=EJ ha h;obtain⟨x,a,f,n,e⟩:=UT h1;refine ⟨a,f,n,oV,?_⟩;unfold ptP;rw[e]
theorem Tw {wd l:By}{r:List By}(ha:ahP wd l=true)(h:CP wd 3 (l::r)=none):voP l=none:=by
 have:=EI ha h;unfold voP;exact mu
theorem Tx {wd l:By}{r:List By}{q:List By×List By}(ha:ahP wd l=true)(h:CP wd 3 (l::r)=some q):∃ a f n,q=([a,f,n],r)∧voP l=(numP a).bind fun i=>(CC n).map fun b=>(i,bA f,b):=by
 obtain⟨h1,rfl⟩:=EJ ha h;obtain⟨x,a,f,n,e⟩:=UT h1;refine ⟨a,f,n,oV,?_⟩;unfold voP;rw[e]
theorem SA {wd l:By}{r:List By}(ha:ahP wd l=true)(h:CP wd 2 (l::r)=none):hdP l=none:=by
 have:=EI ha h;unfold hdP;exact mu
theorem SB {wd l:By}{r:List By}{q:List By×List By}(ha:ahP wd l=true)(h:CP wd 2 (l::r)=some q):∃ a b,q=([a,b],r)∧hdP l=(numP a).bind fun a=>(numP b).map fun b=>(a,b):=by
 obtain⟨h1,rfl⟩:=EJ ha h;obtain⟨x,a,b,e⟩:=US h1;refine ⟨a,b,oV,?_⟩;unfold hdP;rw[e]
theorem Sq {wd l:By}{r:List By}(ha:ahP wd l=true)(h:CP wd 2 (l::r)=none):exP l=none:=by
 have:=EI ha h;unfold exP;exact mu
theorem Ss {wd l:By}{r:List By}{q:List By×List By}(ha:ahP wd l=true)(h:CP wd 2 (l::r)=some q):∃ a d,q=([a,d],r)∧exP l=(numP a).map fun n=>⟨n,bA d⟩:=by
 obtain⟨h1,rfl⟩:=EJ ha h;obtain⟨x,a,b,e⟩:=US h1;refine ⟨a,b,oV,?_⟩;unfold exP;rw[e]
end
section
open Go Go.RowKit Go.BigFrame Tryz
structure Vi (w:World)(B:Nat)(v:Value)(o:Vo):Prop where
 out:∃ ia inn ic irs,v=.agg #[.int .i64 o.id,.string o.nm,.bool o.fx,.slice ia inn ic]∧Ac IQ.cs 2 tI w B ia inn ic irs∧Al2 (ItR w B) irs o.its∧(irs.filterMap fun x=>Di x.a).Nodup
theorem RU {w:World}{b:Nat}{c0 c1 c2 c3:Value}{t:TypeId}(h:Blk w b #[c0,c1,c2,c3] t):w.cell? ⟨b,0,none⟩=some c0∧w.cell? ⟨b,1,none⟩=some c1∧w.cell? ⟨b,2,none⟩=some c2∧w.cell? ⟨b,3,none⟩=some c3:=⟨h.cell 0,h.cell 1,h.cell 2,h.cell 3⟩
theorem TK {w:World}{b:Nat}{c0 c1 c2 c3:Value}{t:TypeId}(h:Blk w b #[c0,c1,c2,c3] t)(x y z v:Value):Blk ((((w.setCell ⟨b,0,none⟩ x).setCell ⟨b,1,none⟩ y).setCell ⟨b,2,none⟩ z).setCell ⟨b,3,none⟩ v) b #[x,y,z,v] t∧w.grownBy ((((w.setCell ⟨b,0,none⟩ x).setCell ⟨b,1,none⟩ y).setCell ⟨b,2,none⟩ z).setCell ⟨b,3,none⟩ v) (some b):=
 ⟨by have:=(((h.set 0 x).set 1 y).set 2 z).set 3 v;simpa using this,af_ (af_ (af_ (af_ (Yh _ _) _ _) _ _) _ _) _ _⟩
theorem ly{p:Prop}(h:p:=by
 obtain⟨t0,t1,t2,t3⟩:=RU FB;have s0:=FB.frozen 0;have s1:=FB.frozen 1;have s2:=FB.frozen 2;have s3:=FB.frozen 3;refine Ag (i:=13) sI rfl (fun K hK=>?_);go_simp;obtain⟨F9,zE⟩:=TK FB (.int .i64 n1) (.string (bA xf)) (.bool fb) (.slice none 0 0);have ki:=ao_ zL zE qJ.out;refine hK.out _ _ (qI _ ki) (fun hHeld=>?_);clear hK K;(try simp only[Act.put,Yj,Yq,Yr]);refine wpAnyH_done sI ?_ _;refine IG (by simp only[AY,YE,List.foldl_nil,Act.put,Act.eval,Yj,Yq,Yr,Array.getD_eq_getD_getElem?,Yp,Yt,Yo,Yw]) ?_
 exact⟨ob,n1,fb,(by first | rfl | assumption),(by simp only[Act.eval,Array.getD_eq_getD_getElem?,Yp,Yt,Yo,Yw]),(by first | rfl | assumption),F9,ki,qJ.out⟩):p:=h
theorem lU{p:Prop}(h:p:=by
 obtain⟨tp,pe,rfl⟩:=hm;have qd:N=none:=by rw[k5.out];first | rfl | (cases numP xp<;>rfl) | (cases numP xp<;>cases numP xq<;>rfl)
 subst qd;have kY:I=none:=jt.out;subst kY;have kZ:M=none:=jl.out;subst kZ;show Fq _ _ _ _ (.panic _) _ _;unfold Fq;go_wp2
 exact⟨rfl,⟨tp,pe,rfl⟩,Bk qv qV (fun k e=>by cases e;exact .inr rfl)⟩):p:=h
theorem mT{p:Prop}(h:p:=by
 subst qd;go_wp2_with fail;refine q.mono ?_;rintro e w2 ⟨⟨tp,pe,rfl⟩,zo⟩;go_wp2
 exact⟨rfl,⟨tp,pe,rfl⟩,Bk qv zo (fun k e=>by cases e;exact .inr rfl)⟩):p:=h
theorem mW{p:Prop}(h:p:=by
 rw[zI] at hm;obtain⟨tp,pe,rfl⟩:=hm
 exact⟨rfl,⟨tp,pe,rfl⟩,zL,(by first | rfl | exact .inl rfl | exact .inr rfl | exact .inl zI | exact .inr zI)⟩):p:=h
theorem pE{p:Prop}(h:p:=by
 subst qd;go_wp2
 exact⟨rfl,⟨tp,pe,rfl⟩,Bk (CD qG) zo (fun k e=>by cases e;exact .inr rfl)⟩):p:=h
theorem oL{p:Prop}(h:p:=by first | rfl | exact .inl rfl | exact .inr rfl | exact .inl qE | exact .inr qE):p:=h
end
end Go.Proofs.YteejlahappbalaaGreatDoor
