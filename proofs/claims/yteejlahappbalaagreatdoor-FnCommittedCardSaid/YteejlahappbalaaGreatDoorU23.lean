/- Texts of pools, read and written; what is drawn. -/
import Derived.Test.YteejlahappbalaaGreatDoorU21
import Derived.Test.YteejlahappbalaaGreatDoorU22
set_option maxHeartbeats 20000000
set_option maxRecDepth 100000
namespace Go.Proofs.YteejlahappbalaaGreatDoor
section
open Go Go.RowKit Go.BigFrame Tryz
theorem FrS.of {sb:Nat}{a:Option Addr}{w w':World}(h:Below w.heap.size w w'):FrS sb a w w':=fun k hk _ _=>h.block k hk
theorem Ey.offB {α:Type}{cs:α->List Value}{sz:Nat}{t:TypeId}{w w':World}{B n cap b:Nat}{a:Option Addr}{l:List α}(h:Ey cs sz t w B a n cap l)(hg:w.grownBy w' (some b))(hb:b<B):Ey cs sz t w' B a n cap l:=h.off hg (fun ad e=>by
 rcases h.own with⟨h0,_⟩ | ⟨k,c,ha,hB,_⟩
 ·rw[h0] at e;cases e
 ·rw[ha] at e;cases e;simp;omega)
end
section
open Go Go.RowKit Tryz
theorem Tg (x:Fl):∀ (L acc:List Fl),IN x (L.foldl (Cf x) (acc,true))=acc++L.filter (fun y=>!(y.nm.toList==x.nm.toList))
 |[],acc=>by simp[IN]
 |y::r,acc=>by
  rw[YE]
  cases he:(y.nm.toList==x.nm.toList)
  ·have:Cf x (acc,true) y=(acc++[y],true):=by simp only[Cf,he];rfl
   rw[this,Tg x r,ZH,he];simp
  ·have:Cf x (acc,true) y=(acc,true):=by simp only[Cf,he];simp
   rw[this,Tg x r,ZH,he];simp
theorem Th (x:Fl):∀ (L acc:List Fl),IN x (L.foldl (Cf x) (acc,false))=acc++L.takeWhile (fun y=>bl y.nm.toList x.nm.toList)++[x]++(L.dropWhile (fun y=>bl y.nm.toList x.nm.toList)).filter (fun y=>!(y.nm.toList==x.nm.toList))
 |[],acc=>by simp[IN]
 |y::r,acc=>by
  rw[YE]
  cases hb:bl y.nm.toList x.nm.toList
  ·cases he:(y.nm.toList==x.nm.toList)
   ·have:Cf x (acc,false) y=(acc++[x]++[y],true):=by simp only[Cf,he,hb];rfl
    rw[this,Tg x r,List.takeWhile_cons,List.dropWhile_cons,hb];simp[he]
   ·have:Cf x (acc,false) y=(acc++[x],true):=by simp only[Cf,he,hb];simp
    rw[this,Tg x r,List.takeWhile_cons,List.dropWhile_cons,hb];simp[he]
  ·have he:(y.nm.toList==x.nm.toList)=false:=by
    cases h:(y.nm.toList==x.nm.toList)
    ·rfl
    ·have h2:y.nm.toList=x.nm.toList:=sP;rw[h2,cn_] at hb;cases hb
   have:Cf x (acc,false) y=(acc++[y],false):=by simp only[Cf,he,hb];rfl
   rw[this,Th x r,List.takeWhile_cons,List.dropWhile_cons,hb];simp
end
section
open Go Go.RowKit Go.BigFrame Tryz
theorem formB_k {o:Dp}(h:AP o=true):o.k=1∨o.k=2∨o.k=3:=by
 simp only[AP,Zf,ZU] at h;omega
def Fs (p:Po):Bool:=p.size==0&&p.next==0&&(p.ex.length+p.vs.length+p.rf.length+p.lt.length==0)
def GJ (B0:Nat)(w:World)(v:Value)(d:Dk):Prop:=
 ∃ la ln lc sa sn sc oa on oc,v=.agg #[.slice la ln lc,.slice sa sn sc,.slice oa on oc]∧SlH Fl.cs 2 w la ln lc d.live∧SlH Fl.cs 2 w sa sn sc d.safe∧SlH Dp.cs 4 w oa on oc d.ops∧(∀ ad,la=some ad->B0<=ad.block)∧(∀ ad,sa=some ad->B0<=ad.block)∧(∀ ad,oa=some ad->B0<=ad.block)
theorem GJ.below {B0:Nat}{w w':World}{v:Value}{d:Dk}(h:GJ B0 w v d)(hb:Below w.heap.size w w'):GJ B0 w' v d:=by
 obtain⟨la,ln,lc,sa,sn,sc,oa,on,oc,hv,h1,h2,h3,h4⟩:=h;exact⟨la,ln,lc,sa,sn,sc,oa,on,oc,hv,h1.below hb,h2.below hb,h3.below hb,h4⟩
theorem SlH.grown {α:Type}{cs:α->List Value}{sz:Nat}{w w':World}{a:Option Addr}{n cap r:Nat}{l:List α}(h:SlH cs sz w a n cap l)(hg:w.grownBy w' (some r))(hr:∀ ad,a=some ad->ad.block≠r):SlH cs sz w' a n cap l:=⟨h.sl.grown hg hr,h.spot,h.nil⟩
theorem GJ.mono {B0 B1:Nat}{w:World}{v:Value}{d:Dk}(h:GJ B0 w v d)(hb:B1<=B0):GJ B1 w v d:=by
 obtain⟨la,ln,lc,sa,sn,sc,oa,on,oc,hv,h1,h2,h3,h4,h5,h6⟩:=h;exact⟨la,ln,lc,sa,sn,sc,oa,on,oc,hv,h1,h2,h3,fun ad e=>Zl hb (h4 ad e),fun ad e=>Zl hb (h5 ad e),fun ad e=>Zl hb (h6 ad e)⟩
def StA (w:World)(v:Value)(s:Sr):Prop:=∃ la ln lc sa sn sc oa on oc ea en ec va vn vc ra rn rc ta tn tc,v=.agg #[.slice la ln lc,.slice sa sn sc,.slice oa on oc,.int .i64 s.p.size,.int .i64 s.p.next,.slice ea en ec,.slice va vn vc,.slice ra rn rc,.slice ta tn tc,.int .i64 s.m]∧Bv w (.agg #[.slice la ln lc,.slice sa sn sc,.slice oa on oc]) s.d∧AC 1 w (.agg #[.int .i64 s.p.size,.int .i64 s.p.next,.slice ea en ec,.slice va vn vc,.slice ra rn rc,.slice ta tn tc]) s.p
theorem mK{p:Prop}(h:p:=by
 obtain⟨la,ln,lc,sa,sn,sc,oa,on,oc,ea,en,ec,va,vn,vc,ra,rn,rc,ta,tn,tc,hv,h1,h2⟩:=h
 exact⟨la,ln,lc,sa,sn,sc,oa,on,oc,ea,en,ec,va,vn,vc,ra,rn,rc,ta,tn,tc,hv,h1.below hb,h2.below hb⟩):p:=h
theorem StA.below {w w':World}{v:Value}{s:Sr}(h:StA w v s)(hb:Below w.heap.size w w'):StA w' v s:=by
 exact mK
theorem StF.below {B:Nat}{w w':World}{v:Value}{s:Sr}(h:StF B w v s)(hb:Below w.heap.size w w'):StF B w' v s:=by
 exact mK
theorem StF.off {B b:Nat}{w w':World}{v:Value}{s:Sr}(h:StF B w v s)(hg:w.grownBy w' (some b))(hb:b<B):StF B w' v s:=by
 obtain⟨la,ln,lc,sa,sn,sc,oa,on,oc,ea,en,ec,va,vn,vc,ra,rn,rc,ta,tn,tc,hv,h1,h2⟩:=h;exact⟨la,ln,lc,sa,sn,sc,oa,on,oc,ea,en,ec,va,vn,vc,ra,rn,rc,ta,tn,tc,hv,h1.off hg hb,h2.off hg hb⟩
theorem StF.mono {B B':Nat}{w:World}{v:Value}{s:Sr}(h:StF B w v s)(hb:B'<=B):StF B' w v s:=by
 obtain⟨la,ln,lc,sa,sn,sc,oa,on,oc,ea,en,ec,va,vn,vc,ra,rn,rc,ta,tn,tc,hv,h1,h2⟩:=h;exact⟨la,ln,lc,sa,sn,sc,oa,on,oc,ea,en,ec,va,vn,vc,ra,rn,rc,ta,tn,tc,hv,h1.mono hb,h2.mono hb⟩
theorem DN (B:Nat)(v:Value)(p:Po)(w:World)(h:AC B w v p)(hs:A7 p) :
  Calls prog 73 #[v] w fun e w'=>e=.returned (.bool (Fs p))∧Below w.heap.size w w':=by
 obtain⟨ea,en,ec,va,vn,vc,ra,rn,rc,la,ln,lc,rfl,⟨h1,k1⟩,⟨h2,k2⟩,⟨h3,k3⟩,h4,k4⟩:=h;obtain⟨d1,-,d2,-,d4,-,d5,-⟩:=hs;have hb:Fs p=(p.size==0&&p.next==0&&(en+vn+rn+ln==0)):=by rw[Fs,h1.len,h2.len,h3.len,h4.len]
 obtain⟨R,hR⟩:∃ R,Hid (Fs p=R):=⟨_,rfl⟩;rw[hR.out];rw[h1.len] at d1;rw[h2.len] at d2;rw[h3.len] at d4;rw[h4.len] at d5;replace hb:Hid _:=hR.out.symm.trans hb;generalize p.size=s at *;generalize p.next=n at *;clear h1 h2 h3 h4 k1 k2 k3 k4 hR;go_enter func73,ntmps73;go_wp2;(all_goals go_returns);(all_goals refine ⟨ac_ ?_,sM⟩);all_goals (rw[hb.out,YH];simp;try omega)
theorem rW{p:Prop}(h:p:=by rw[hW];go_grown):p:=h
theorem oQ{p:Prop}(h:p:=by rw[hW];exact (Blk.new w _ _).alloc _):p:=h
theorem k6 {u:World}{b:Nat}{t:TypeId}{z0 z1 z2 z3 z4 z5:Value}(h:Blk u b #[z0,z1,z2,z3,z4,z5] t):K6 u b t z0 z1 z2 z3 z4 z5:=⟨h,h.six',fz6 h⟩
end
section
open Go.Shelf Go.RowKit Go.Lib Tryz
def Qc:Go.Shelf.Ren:=⟨fun | 173=>81 | 246=>131 | 283=>170 | 284=>171 | 285=>172 | 286=>173 | 129=>203 | 317=>216 | 318=>217 | 319=>218 | 320=>219 | 337=>234 | 338=>235 | n=>n,fun | 2=>2 | 3=>3 | 9=>9 | 4=>4 | 171=>228 | 0=>0 | 53=>189 | 37=>22 | 5=>5 | 173=>231 | 212=>267 | 51=>108 | 20=>20 | 213=>268 | 46=>174 | 232=>289 | 233=>290 | n=>n,fun | 17=>4 | 18=>5 | 19=>6 | n=>n⟩
theorem Vl:LaysM.n173 Tryz.prog Qc where
 mixed:=by kernel_rfl
 f129:=Tryz.func203.trans (congrArg some sI)
 f173:=Tryz.func81.trans (congrArg some sI)
 f246:=Tryz.func131.trans (congrArg some sI)
 f283:=Tryz.func170.trans (congrArg some sI)
 f284:=Tryz.func171.trans (congrArg some sI)
 f285:=Tryz.func172.trans (congrArg some sI)
 f286:=Tryz.func173.trans (congrArg some sI)
 f317:=Tryz.func216.trans (congrArg some sI)
 f318:=Tryz.func217.trans (congrArg some sI)
 f319:=Tryz.func218.trans (congrArg some sI)
 f320:=Tryz.func219.trans (congrArg some sI)
 f337:=Tryz.func234.trans (congrArg some sI)
 f338:=Tryz.func235.trans (congrArg some sI)
 t0:=Tryz.underlying0
 a0:=Tryz.isAgg0
 z0:=Tryz.sizeOf0
 v0:=Tryz.zeroValue0
 t2:=Tryz.underlying2
 a2:=Tryz.isAgg2
 z2:=Tryz.sizeOf2
 v2:=Tryz.zeroValue2
 t3:=Tryz.underlying3
 a3:=Tryz.isAgg3
 z3:=Tryz.sizeOf3
 v3:=Tryz.zeroValue3
 t4:=Tryz.underlying4
 a4:=Tryz.isAgg4
 z4:=Tryz.sizeOf4
 v4:=Tryz.zeroValue4
 t5:=Tryz.underlying5
 a5:=Tryz.isAgg5
 z5:=Tryz.sizeOf5
 v5:=Tryz.zeroValue5
 t9:=Tryz.underlying9
 a9:=Tryz.isAgg9
 z9:=Tryz.sizeOf9
 v9:=Tryz.zeroValue9
 t20:=Tryz.underlying20
 a20:=Tryz.isAgg20
 z20:=Tryz.sizeOf20
 v20:=Tryz.zeroValue20
 t37:=Tryz.underlying22
 a37:=Tryz.isAgg22
 z37:=Tryz.sizeOf22
 v37:=Tryz.zeroValue22
 t46:=Tryz.underlying174
 a46:=Tryz.isAgg174
 z46:=Tryz.sizeOf174
 v46:=Tryz.zeroValue174
 t51:=Tryz.underlying108
 a51:=Tryz.isAgg108
 z51:=Tryz.sizeOf108
 v51:=Tryz.zeroValue108
 t53:=Tryz.underlying189
 a53:=Tryz.isAgg189
 z53:=Tryz.sizeOf189
 v53:=Tryz.zeroValue189
 t171:=Tryz.underlying228
 a171:=Tryz.isAgg228
 z171:=Tryz.sizeOf228
 v171:=Tryz.zeroValue228
 t173:=Tryz.underlying231
 a173:=Tryz.isAgg231
 z173:=Tryz.sizeOf231
 v173:=Tryz.zeroValue231
 t212:=Tryz.underlying267
 a212:=Tryz.isAgg267
 z212:=Tryz.sizeOf267
 v212:=Tryz.zeroValue267
 t213:=Tryz.underlying268
 a213:=Tryz.isAgg268
 z213:=Tryz.sizeOf268
 t232:=Tryz.underlying289
 a232:=Tryz.isAgg289
 z232:=Tryz.sizeOf289
 v232:=Tryz.zeroValue289
 t233:=Tryz.underlying290
 a233:=Tryz.isAgg290
 z233:=Tryz.sizeOf290
 v233:=Tryz.zeroValue290
 g17:=by kernel_rfl
 g18:=by kernel_rfl
 g19:=by kernel_rfl
 i0:=by kernel_rfl
 i2:=by kernel_rfl
 i3:=by kernel_rfl
 i4:=by kernel_rfl
 i5:=by kernel_rfl
 i9:=by kernel_rfl
 i20:=by kernel_rfl
 i37:=by kernel_rfl
 i46:=by kernel_rfl
 i51:=by kernel_rfl
 i53:=by kernel_rfl
 i171:=by kernel_rfl
 i173:=by kernel_rfl
 i212:=by kernel_rfl
 i232:=by kernel_rfl
 i233:=by kernel_rfl
 m17:=by kernel_rfl
 m18:=by kernel_rfl
 m19:=by kernel_rfl
end
section
open Go Go.RowKit Go.BigFrame Tryz
theorem AF (n:Int)(w:World)(h0:-9223372036854775808<=n)(h1:n<=9223372036854775807)(ht:Gx w) :
  Calls prog 37 #[.int .i64 n] w fun e w'=>e=.returned (.string (AG n))∧Below w.heap.size w w':=by
 go_enter func37,ntmps37;go_wp2_with fail;refine (Any.strconv_FormatInt_10 Vl n h0 h1 w ht).mono ?_;rintro e w1 ⟨rfl,k,os,rfl⟩;have hB:=Lib.below_grow w.heap.size w (Zd _) k os;generalize Sort.grow (w.drewN k) os=W at *;go_wp2;go_returns;exact⟨rfl,hB⟩
theorem mM{p:Prop}(h:p:=by
 go_returns
 exact⟨rfl,sM⟩):p:=h
end
section
open Go Go.RowKit Go.BigFrame Go.Shelf Tryz
def Db (n:Int)(p:Po):ByteArray:=if (0<=n∧n<=1000000000)∧Ai p=true∧p.lt=[] then Cp n (Ay p) else ⟨#[]⟩
theorem HH {n:Int}{p:Po}(h:¬ ((0<=n∧n<=1000000000)∧Ai p=true∧p.lt=[])):Db n p=⟨#[]⟩:=if_neg h
theorem I8 {n:Int}{p:Po}(h0:0<=n)(h1:n<=1000000000)(hp:Ai p=true)(hl:p.lt=[]):Db n p=Cp n (Ay p):=if_pos ⟨⟨h0,h1⟩,hp,hl⟩
theorem IW (B0:Nat)(hB0:0<B0)(v:Value)(p:Po)(n:Int)(w:World)(h:AC B0 w v p)(hd:A7 p)(hN:Ai p=true->Je p) :
  Calls prog 89 #[.int .i64 n,v] w fun e w'=>e=.returned (.string (Db n p))∧Below w.heap.size w w':=by
 have hg:=h;obtain⟨ea,en,ec,va,vn,vc,ra,rn,rc,la,ln,lc,rfl,_,_,_,h4,_⟩:=h;have hf:Hid (p.lt.length=ln):=h4.len;clear h4;have C:=Blk.new w #[.int .i64 p.size,.int .i64 p.next,.slice ea en ec,.slice va vn vc,.slice ra rn rc,.slice la ln lc] 33;have he:Below w.heap.size w (w.alloc (.cells #[.int .i64 p.size,.int .i64 p.next,.slice ea en ec,.slice va vn vc,.slice ra rn rc,.slice la ln lc] 33)):=sM;have kin:=fun (u:World)=>ai_ n 0 1000000000 u;by_cases hx:(0<=n∧n<=1000000000)∧Ai p=true∧p.lt=[]
 ·obtain⟨⟨h0,h1⟩,hp,hl⟩:=hx;have hj:ln=0:=by rw[<-hf.out,hl];rfl
  subst hj;have ks:=fun (u:World) (hu:Below w.heap.size w u)=>E7 B0 _ p n u (hg.below hu) hd (hN hp) h0 h1;have kp:=fun (u:World) (hu:Below w.heap.size w u)=>ep_ B0 hB0 _ p u (hg.below hu) hd;rw[hp] at kp;rw[I8 h0 h1 hp hl];obtain⟨T,hT⟩:∃ z,Hid (Cp n (Ay p)=z):=⟨_,rfl⟩;rw[hT.out] at ks;rw[hT.out];go_enter func89,ntmps89;go_wp2_with fail;generalize w.alloc (.cells #[.int .i64 p.size,.int .i64 p.next,.slice ea en ec,.slice va vn vc,.slice ra rn rc,.slice la 0 lc] 33)=W at *;have d0:=C.cell 0;have d1:=C.cell 1;have d2:=C.cell 2;have d3:=C.cell 3;have d4:=C.cell 4;have d5:=C.cell 5;refine (kin W).mono ?_;rintro e w1 ⟨rfl,rfl⟩;rw[show (decide (0<=n)&&decide (n<=1000000000))=true by simp[h0,h1]];go_wp2_with fail;refine (kp _ he).mono ?_;rintro e w2 ⟨rfl,ha⟩;have C2:=C.below ha;replace ha:=Aa he ha;clear d0 d1 d2 d3 d4 d5 C he;obtain⟨d0,d1,d2,d3,d4,d5⟩:=C2.six;go_wp2_with fail;refine (ks w2 ha).mono ?_;rintro e w3 ⟨rfl,hh⟩;go_wp2;go_returns;exact⟨rfl,Aa ha hh⟩
 ·rw[HH hx];have kp:=fun (u:World) (hu:Below w.heap.size w u)=>ep_ B0 hB0 _ p u (hg.below hu) hd;go_enter func89,ntmps89;go_wp2_with fail;generalize w.alloc (.cells #[.int .i64 p.size,.int .i64 p.next,.slice ea en ec,.slice va vn vc,.slice ra rn rc,.slice la ln lc] 33)=W at *;obtain⟨d0,d1,d2,d3,d4,d5⟩:=C.six;refine (kin W).mono ?_;rintro e w1 ⟨rfl,rfl⟩;by_cases hin:0<=n∧n<=1000000000
  ·rw[show (decide (0<=n)&&decide (n<=1000000000))=true by simp[hin.1,hin.2]];go_wp2_with fail;refine (kp _ he).mono ?_;rintro e w2 ⟨rfl,ha⟩;have C2:=C.below ha;replace ha:=Aa he ha;clear d0 d1 d2 d3 d4 d5 C he;obtain⟨d0,d1,d2,d3,d4,d5⟩:=C2.six
   cases hp:Ai p
   ·go_wp2;go_returns;exact⟨rfl,ha⟩
   ·have hl:0<ln:=by
     rcases Nat.eq_zero_or_pos ln with h | h
     ·exact absurd ⟨hin,hp,Zt (by rw[hf.out];exact h)⟩ hx
     ·exact h
    go_wp2;go_returns;exact⟨rfl,ha⟩
  ·have hb:(decide (0<=n)&&decide (n<=1000000000))=false:=by
    cases hc:(decide (0<=n)&&decide (n<=1000000000)) with
    |false=>rfl
    |true=>simp at hc;exact absurd hc hin
   rw[hb];go_wp2;go_returns;exact⟨rfl,he⟩
end
section
open Go Go.RowKit Go.BigFrame Tryz
def nVs (vs:List Vo):Nat:=(vs.map fun v=>3+(v.its.map fun x=>1+3*x.ps.length).sum).sum
theorem Uu (its:List It):(its.map fun x=>1+3*x.ps.length).sum<=3*(its.flatMap Ci).length:=by
 induction its with
 |nil=>simp
 |cons x l ih=>simp[Ci] at ih ⊢;omega
theorem Uv (vs:List Vo):nVs vs<=3*(vs.flatMap BA).length:=by
 unfold nVs
 induction vs with
 |nil=>simp
 |cons v l ih=>
  have:=Uu v.its;simp[BA] at ih this ⊢;omega
structure RG (p:Po):Prop where
 small:Mp p
 ex:p.ex.length<=60000
 vs:p.vs.length<=60000
 its:∀ v∈p.vs,v.its.length<=60000∧∀ x∈v.its,x.ps.length<=60000
 nv:nVs p.vs<=180000
 rf:p.rf.length<=60000
 lt:p.lt.length<=60000
theorem Oo {p:Po}(h:(Ay p).length<=60000):RG p:=by
 rw[Fb] at h;have hc:=H2 (CJ p);have hm:∀ l∈CJ p,l.length<=60000:=fun l hl=>by have:=H3 hl;omega
 have hL:(CJ p).length<=60000:=sH;have e:CJ p=joW [Cj,Lib.itoa p.size,Lib.itoa p.next]::(p.ex.map Fm++(p.vs.flatMap BA++(p.rf.map (BD DK)++p.lt.map (BD BQ)))):=by simp[CJ]
 rw[e] at hL;simp only[Zw,ZE,List.length_map] at hL;have hw:∀ (x:ByteArray) (l:By),l∈CJ p->x.data.toList.length<=l.length->x.size<=1048576:=fun x l hl hx=>by
  have:=hm l hl;rw[Lib.size_eq];omega
 have jw:∀ v∈p.vs,∀ l∈BA v,l∈CJ p:=fun v hv l hl=>by
  rw[e];simp only[Zn,Zs,ZL];exact .inr (.inr (.inl ⟨v,hv,hl⟩))
 have hb:p.vs.length<=60000:=by
  have:=Fw (f:=BA) p.vs (fun v _=>by simp[BA]);omega
 have ha:∀ v∈p.vs,v.its.length<=60000∧∀ x∈v.its,x.ps.length<=60000:=fun v hv=>by
  have h1:=ED (f:=BA) hv;have h3:(BA v).length=1+(v.its.flatMap Ci).length:=by simp[BA];omega
  refine ⟨?_,fun x hx=>?_⟩
  ·have h2:=Fw (f:=Ci) v.its (fun x _=>by simp[Ci]);omega
  ·have h2:=ED (f:=Ci) hx;have h4:(Ci x).length=1+x.ps.length:=by simp[Ci];omega
   omega
 refine ⟨⟨⟨sH,fun x hx=>?_⟩,⟨sH,fun v hv=>⟨?_,⟨by have:=(ha v hv).1;omega,fun x hx=>⟨?_,by have:=(ha v hv).2 x hx;omega⟩⟩⟩⟩,⟨sH,fun c zS=>?_⟩,sH,fun c zS=>?_⟩,sH,hb,ha,?_,sH,sH⟩
 ·exact m8
 ·exact pF
 ·exact pg
 ·exact mG
 ·exact mF
 ·have:=Uv p.vs;omega
theorem GA:RG Ao:=by
 refine ⟨⟨⟨rI,fun x hx=>by simp[Ao] at hx⟩,⟨rI,fun x hx=>by simp[Ao] at hx⟩,⟨rI,fun x hx=>by simp[Ao] at hx⟩,rI,fun x hx=>by simp[Ao] at hx⟩,rI,rI,fun x hx=>by simp[Ao] at hx,by simp[Ao,nVs],rI,rI⟩
theorem PL (s:By):RG ((Dh s).getD Ao):=by
 unfold Dh;split
 ·next hs=>
  rw[Ky]
  cases hI:Fg s with
  |none=>exact GA
  |some p=>
   show RG ((if Ai p=true then some p else none).getD Ao);split
   ·exact Oo (p:=p) (by rw[<-Kz hI];exact hs)
   ·exact GA
 ·exact GA
def El (s:By):By:=(s.drop 4).take (s.length-8)
def hdB (m:By):By:=match cutB 10 m with
 |none=>m
 |some q=>q.1
def tlB (m:By):By:=match cutB 10 m with
 |none=>[]
 |some q=>q.2
noncomputable def rsO (s:ByteArray):Option (Int×Po):=if 8<=s.size∧s.size<=120000 then (numP (hdB (El s.data.toList))).bind fun n=>(Dh (tlB (El s.data.toList))).bind fun p=>if Db n p=s then some (n,p) else none else none
theorem II (s:By):(El s).length<=s.length:=by
 unfold El;simp;omega
theorem SJ (s:ByteArray)(h:8<=s.size):s.extract 4 (s.size-4)=bA (El s.data.toList):=by
 apply ByteArray.ext;apply Array.ext';rw[ByteArray.data_extract,Array.toList_extract,bA,El];simp;have:s.size=s.data.size:=rfl;rw[this];congr 1;omega
theorem B5 {P:Program}{fn:Func}{p q r:Tmp}{ty:TypeId}(h:fn.results=#[.tmp q,.cell p ty,.tmp r])(tmps:Array Value)(w:World)(g:Nat)(t:TypeId)(cs:Array Value)(fr:Nat×Nat)(d:TypeDesc)(v u:Value)
  (hp:tmps.getD p undef=.pointer (some ⟨g,0,none⟩)) (hq:tmps.getD q undef=v) (hr:tmps.getD r undef=u) (hg:w.heap[g]?=some (.cells cs t fr))
  (hu:P.underlying ty=some d) (hd:(match d with | .struct _ | .array _ _=>true | _=>false)=true) (hi:(P.info? ty).map (·.size)=some cs.size) :
  (results fn tmps).run P w=.ok (.tuple #[v,.agg cs,u]) w:=by
 have ha:tmps[p]?.getD undef=.pointer (some ⟨g,0,none⟩):=by simpa using hp
 have hb:tmps[q]?.getD undef=v:=by simpa using hq
 have hc:tmps[r]?.getD undef=u:=by simpa using hr
 simp[results,h,ha,hb,hc,asAddr,run_loadVar_row w g t ty cs fr d hg hu hd hi]
theorem Sz (l:By):(hdB l).length<=l.length:=by
 unfold hdB
 cases hc:cutB 10 l with
 |none=>exact Zd _
 |some q=>
  obtain⟨h1,_⟩:=Bq (a:=q.1) (b:=q.2) hc;rw[h1];simp
theorem Tu (l:By):(tlB l).length<=l.length:=by
 unfold tlB
 cases hc:cutB 10 l with
 |none=>simp
 |some q=>
  exact mE
theorem lg{p:Prop}(h:p:=by
 rw[hS.out] at qs kG;go_wp2_with fail;refine qs.mono ?_;rintro e w4 ⟨rfl,kL⟩;clear qs x0 x1 x2 x3 x4 x5;replace QB:=QB.below kL;replace P3:=P3.below kL;replace M3:=M3.below kL;replace qG:=Aa qG kL;clear kL;by_cases hSs:S=s
 ·have jJ:(S.toList==s.toList)=true:=by rw[hSs];simp
  rw[if_pos hSs] at kG;have:=kG.out;subst this;go_upto_region 8 with fail;have qw:Below w4.heap.size w4 w4.drew:=(Yg _ _).drew;replace QB:=QB.below qw;replace P3:=P3.below qw;replace M3:=M3.below qw;replace qG:=Aa qG qw;have qZ:(fun u=>u.cell? ⟨b3,0,none⟩=some (.int .i64 p.size)∧u.cell? ⟨b3,1,none⟩=some (.int .i64 p.next)∧u.cell? ⟨b3,2,none⟩=some (.slice ea en ec)∧u.cell? ⟨b3,3,none⟩=some (.slice va vn vc)∧u.cell? ⟨b3,4,none⟩=some (.slice ra rn rc)∧u.cell? ⟨b3,5,none⟩=some (.slice la ln lc)) w4.drew:=P3.sixM;refine aC_ (S:=(fun u=>u.cell? ⟨b3,0,none⟩=some (.int .i64 p.size)∧u.cell? ⟨b3,1,none⟩=some (.int .i64 p.next)∧u.cell? ⟨b3,2,none⟩=some (.slice ea en ec)∧u.cell? ⟨b3,3,none⟩=some (.slice va vn vc)∧u.cell? ⟨b3,4,none⟩=some (.slice ra rn rc)∧u.cell? ⟨b3,5,none⟩=some (.slice la ln lc))) 5 sI rfl ?_;generalize w4.drew=y0 at *;clear qw;refine tk 0 ?_;refine tk 1 ?_;refine tk 2 ?_;obtain⟨r0,r1,r2,r3,r4,r5⟩:=QB.sixM;have g0:=QB.frozen 0;have g1:=QB.frozen 1;have g2:=QB.frozen 2;have g3:=QB.frozen 3;have g4:=QB.frozen 4;have g5:=QB.frozen 5;refine Ag (i:=3) sI rfl (fun K hK=>?_);go_simp;obtain⟨E8,qX⟩:=Gs QB (.int .i64 p.size) (.int .i64 p.next) (.slice ea en ec) (.slice va vn vc) (.slice ra rn rc) (.slice la ln lc);have P8:=P3.grown qX (by simpa using hne);have M8:=M3.box qX QB;have qB:=qG.grown qX (by have:=QB.lt;omega) (fun k e=>by cases e;exact Zd _);refine hK.out _ _ P8.sixM (fun hHeld=>?_);clear hK K;(try simp only[Act.put,Yj,Yq,Yr]);generalize (((((y0.setCell ⟨w.heap.size,0,none⟩ (.int .i64 p.size)).setCell ⟨w.heap.size,1,none⟩ (.int .i64 p.next)).setCell ⟨w.heap.size,2,none⟩ (.slice ea en ec)).setCell ⟨w.heap.size,3,none⟩ (.slice va vn vc)).setCell ⟨w.heap.size,4,none⟩ (.slice ra rn rc)).setCell ⟨w.heap.size,5,none⟩ (.slice la ln lc)=W8 at *;refine tk 4 ?_;refine wpAnyH_done sI ?_ _;go_wp2;refine YW (B5 rfl _ W8 w.heap.size _ _ _ _ _ _ rfl rfl rfl E8 underlying33 rfl sI) rfl ?_;exact⟨⟨_,rfl,M8⟩,qB⟩
 ·have jJ:(S.toList==s.toList)=false:=by
   rw[ZV,Zu,Zu];exact fun e=>hSs (ByteArray.ext (Array.ext' e))
  rw[if_neg hSs] at kG;have:=kG.out;subst this;obtain⟨r0,r1,r2,r3,r4,r5⟩:=QB.sixM;have g0:=QB.frozen 0;have g1:=QB.frozen 1;have g2:=QB.frozen 2;have g3:=QB.frozen 3;have g4:=QB.frozen 4;have g5:=QB.frozen 5;go_wp2;obtain⟨E8,M8,qB⟩:=AS (p:=Ao) QB qG (Zd _) (Dx w.heap.size w4);change bodyPost _ _ _ _ _ (Bm w4 w.heap.size (.int .i64 0) (.int .i64 0) (.slice none 0 0) (.slice none 0 0) (.slice none 0 0) (.slice none 0 0));generalize Bm w4 w.heap.size (.int .i64 0) (.int .i64 0) (.slice none 0 0) (.slice none 0 0) (.slice none 0 0) (.slice none 0 0)=W8 at *;refine YW (B5 rfl _ W8 w.heap.size _ _ _ _ _ _ rfl rfl rfl E8 underlying33 rfl sI) rfl ?_
  exact⟨⟨_,rfl,M8⟩,qB⟩):p:=h
theorem lm{p:Prop}(h:p:=by
 obtain⟨r0,r1,r2,r3,r4,r5⟩:=QB.sixM;have g0:=QB.frozen 0;have g1:=QB.frozen 1;have g2:=QB.frozen 2;have g3:=QB.frozen 3;have g4:=QB.frozen 4;have g5:=QB.frozen 5;go_wp2;obtain⟨E8,M8,qB⟩:=AS (p:=Ao) QB qG (Zd _) (Dx w.heap.size W3);change bodyPost _ _ _ _ _ (Bm W3 w.heap.size (.int .i64 0) (.int .i64 0) (.slice none 0 0) (.slice none 0 0) (.slice none 0 0) (.slice none 0 0));generalize Bm W3 w.heap.size (.int .i64 0) (.int .i64 0) (.slice none 0 0) (.slice none 0 0) (.slice none 0 0) (.slice none 0 0)=W8 at *;refine YW (B5 rfl _ W8 w.heap.size _ _ _ _ _ _ rfl rfl rfl E8 underlying33 rfl sI) rfl ?_
 exact⟨⟨_,rfl,M8⟩,qB⟩):p:=h
theorem lp{p:Prop}(h:p:=by
 obtain⟨r0,r1,r2,r3,r4,r5⟩:=QB.sixM;have g0:=QB.frozen 0;have g1:=QB.frozen 1;have g2:=QB.frozen 2;have g3:=QB.frozen 3;have g4:=QB.frozen 4;have g5:=QB.frozen 5;go_wp2;obtain⟨E8,M8,qB⟩:=AS (p:=Ao) QB qG (Zd _) (Dx w.heap.size W0);change bodyPost _ _ _ _ _ (Bm W0 w.heap.size (.int .i64 0) (.int .i64 0) (.slice none 0 0) (.slice none 0 0) (.slice none 0 0) (.slice none 0 0));generalize Bm W0 w.heap.size (.int .i64 0) (.int .i64 0) (.slice none 0 0) (.slice none 0 0) (.slice none 0 0) (.slice none 0 0)=W8 at *;refine YW (B5 rfl _ W8 w.heap.size _ _ _ _ _ _ rfl rfl rfl E8 underlying33 rfl sI) rfl ?_
 exact⟨⟨_,rfl,M8⟩,qB⟩):p:=h
theorem mj{p:Prop}(h:p:=by
 show _=_;obtain⟨h1,h2⟩:=kx.out;have h3:=kz.out;have h4:=hp.out;rw[k8.out]
 cases hn:numP Lb.data.toList with
 |none=>rw[hn] at h1;cases h1
 |some n'=>
  rw[hn] at h2
  cases ha:Dh Tb.data.toList with
  |none=>rw[ha] at h3;cases h3
  |some p'=>
   rw[ha] at h4;obtain rfl:n'=n:=h2;obtain rfl:p'=p:=h4
   rfl):p:=h
theorem mw{p:Prop}(h:p:=by
 rw[k8.out];obtain⟨h1,_⟩:=kx.out;have h3:=kz.out
 cases hn:numP Lb.data.toList with
 |none=>rfl
 |some n'=>
  rw[hn] at h1
  cases ha:Dh Tb.data.toList with
  |none=>rfl
  |some p'=>
   rw[ha] at h3
   exact absurd ⟨h1.symm,h3.symm⟩ hok):p:=h
theorem mC{p:Prop}(h:p:=by
 rw[<-hM.out,<-SJ s zN];have:=run_slice_string (P:=prog) u 9 s .i64 .i64 4 ((s.size:Int)-4) underlying9 sH sH sH;rw[show ((s.size:Int)-4).toNat=s.size-4 by omega] at this
 exact this):p:=h
theorem pA{p:Prop}(h:p:=by
 cases numP Lb.data.toList with
 |none=>exact⟨0,false,⟨rfl,rfl⟩,rfl⟩
 |some n=>exact⟨n,true,⟨rfl,rfl⟩,rfl⟩):p:=h
theorem sk{p:Prop}(h:p:=by
 show _=_
 rw[<-hA.out,rsO,if_pos ⟨zN,kg⟩,<-jf.out,<-je.out,Ak,Ak]):p:=h
theorem rS{p:Prop}(h:p:=by rw[<-je.out,EN];have:=Tu (El s.data.toList);have h2:=II s.data.toList;rw[<-Lib.size_eq] at h2;omega):p:=h
theorem rT{p:Prop}(h:p:=by rw[<-jf.out,EN];have:=Sz (El s.data.toList);have h2:=II s.data.toList;rw[<-Lib.size_eq] at h2;omega):p:=h
theorem oI{p:Prop}(h:p:=by rw[<-hM.out,EN];have:=II s.data.toList;rw[<-Lib.size_eq] at this;omega):p:=h
theorem dz{p:Prop}(h:p:=by rw[qD];omega):p:=h
theorem dM{p:Prop}(h:p:=by rw[<-hp.out];exact (PL Tb.data.toList).small.dim):p:=h
theorem IV (s:ByteArray)(w:World)(hs:s.size<=2000000)(hw0:0<w.heap.size) :
  Calls prog 44 #[.string s] w fun e w'=>(∃ v,e=.returned (.tuple #[.int .i64 ((rsO s).elim 0 (·.1)),v,.bool (rsO s).isSome])∧AK w.heap.size w' v ((rsO s).elim Ao (·.2)))∧Below w.heap.size w w':=by
 obtain⟨A,hA⟩:∃ A,Hid (rsO s=A):=⟨_,rfl⟩;rw[hA.out];have qG:Below w.heap.size w (w.alloc (.cells #[.int .i64 0,.int .i64 0,.slice none 0 0,.slice none 0 0,.slice none 0 0,.slice none 0 0] 33)):=(Yg _ _).alloc (Zd _) _;have QB:=Blk.new w #[.int .i64 0,.int .i64 0,.slice none 0 0,.slice none 0 0,.slice none 0 0,.slice none 0 0] 33;by_cases hb:8<=s.size∧s.size<=120000
 ·obtain⟨zN,kg⟩:=hb;obtain⟨M,hM⟩:∃ M,Hid (bA (El s.data.toList)=M):=⟨_,rfl⟩;have hr:M.size<=120000:=oI;obtain⟨Lb,jf⟩:∃ L,Hid (bA (hdB (El s.data.toList))=L):=⟨_,rfl⟩;obtain⟨Tb,je⟩:∃ L,Hid (bA (tlB (El s.data.toList))=L):=⟨_,rfl⟩;have k8:Hid (A=(numP Lb.data.toList).bind fun n=>(Dh Tb.data.toList).bind fun p=>if Db n p=s then some (n,p) else none):=by
   exact sk
  have hx:∀ u:World,(Instr.slice 9 (.string s) (some (.int .i64 4)) (some (.int .i64 ((s.size:Int)-4))) none).run prog u=.ok (.string M) u:=fun u=>by
   exact mC
  have ht:Tb.size<=120000:=rS;have hq:Lb.size<=120000:=rT;have qc:∀ u:World,True->Calls prog 86 #[.string M,.int .u8 10] u fun e w'=>(∃ b,e=.returned (.tuple #[.string Lb,.string Tb,.bool b]))∧Below u.heap.size u w':=fun u _=>by
   refine (Eg 10 M u sH).mono ?_;rintro e w' ⟨rfl,hb⟩;refine ⟨?_,hb⟩;have hm:M.data.toList=El s.data.toList:=by rw[<-hM.out,Ak]
   rw[<-jf.out,<-je.out,<-hm];unfold HV hdB tlB
   cases cutB 10 M.data.toList with
   |none=>exact⟨false,by rw[show bA M.data.toList=M from ByteArray.ext (Array.ext' (Ak _))];rfl⟩
   |some q=>exact⟨true,rfl⟩
  have qn:∀ u:World,True->Calls prog 87 #[.string Lb] u fun e w'=>e=.returned (Gl (numP Lb.data.toList))∧Below u.heap.size u w':=fun u _=>(GE Lb u sH).mono fun e w' ⟨h1,h2⟩=>⟨h1,by rw[h2];exact Yg _ _⟩;have qr:=fun (u:World) (hu:0<u.heap.size)=>Jq Tb u sH hu;go_enter func44,ntmps44;go_wp2_with fail;generalize w.alloc (.cells #[.int .i64 0,.int .i64 0,.slice none 0 0,.slice none 0 0,.slice none 0 0,.slice none 0 0] 33)=W0 at *;skip;refine (qc W0 trivial).mono ?_;rintro e w1 ⟨⟨bb,rfl⟩,hc⟩;replace QB:=QB.below hc;skip;replace qG:=Aa qG hc;clear hc qc;go_wp2_with fail;refine (qn w1 trivial).mono ?_;rintro e w2 ⟨rfl,he⟩;replace QB:=QB.below he;skip;replace qG:=Aa qG he;clear he qn;obtain⟨n,nb,kx,hk⟩:∃ n nb,Hid ((numP Lb.data.toList).isSome=nb∧(numP Lb.data.toList).getD 0=n)∧Gl (numP Lb.data.toList)=.tuple #[.int .i64 n,.bool nb]:=by
   exact pA
  rw[hk];clear hk;obtain⟨ab,kz⟩:∃ ab,Hid ((Dh Tb.data.toList).isSome=ab):=⟨_,rfl⟩;obtain⟨p,hp⟩:∃ p,Hid ((Dh Tb.data.toList).getD Ao=p):=⟨_,rfl⟩;have hl:A7 p:=dM;rw[kz.out,hp.out] at qr;go_wp2_with fail;refine (qr w2 (by have:=qG.size;omega)).mono ?_;rintro e w3 ⟨⟨v,rfl,M3⟩,hh⟩;obtain⟨ea,en,ec,va,vn,vc,ra,rn,rc,la,ln,lc,vr,rfl,_⟩:=M3.out;have hf:Below w3.heap.size w3 (w3.alloc (.cells #[.int .i64 p.size,.int .i64 p.next,.slice ea en ec,.slice va vn vc,.slice ra rn rc,.slice la ln lc] 33)):=(Yg _ _).alloc (Zd _) _;obtain⟨b3,qD⟩:∃ b,b=w3.heap.size:=⟨_,rfl⟩;have P3:Blk (w3.alloc (.cells #[.int .i64 p.size,.int .i64 p.next,.slice ea en ec,.slice va vn vc,.slice ra rn rc,.slice la ln lc] 33)) b3 #[.int .i64 p.size,.int .i64 p.next,.slice ea en ec,.slice va vn vc,.slice ra rn rc,.slice la ln lc] 33:=Blk.new' _ _ _ _ qD;have hj:=Aa hh hf;have ho:=qG.size;have hv:=QB.lt;have hw:=hh.size;replace QB:=QB.below hj;skip;replace M3:=(M3.below hf).mono ho;replace qG:=Aa qG hj;have hne:b3≠w.heap.size:=dz;clear hh hf hj qr;obtain⟨x0,x1,x2,x3,x4,x5⟩:=P3.sixM;go_upto_region 6 with fail;rw[<-qD];clear qD;generalize w3.alloc (.cells #[.int .i64 p.size,.int .i64 p.next,.slice ea en ec,.slice va vn vc,.slice ra rn rc,.slice la ln lc] 33)=W3 at *;by_cases hok:nb=true∧ab=true
  ·obtain⟨rfl,rfl⟩:=hok;have kG:Hid (A=if Db n p=s then some (n,p) else none):=by
    exact mj
   clear kx kz hp k8;obtain⟨S,hS⟩:∃ S,Hid (Db n p=S):=⟨_,rfl⟩;have qs:=IW w.heap.size hw0 _ p n W3 M3.at hl EW;exact lg
  ·have hg:A=none:=by
    exact mw
   subst hg
   cases nb with
   |false=>
    exact lm
   |true=>
    cases ab with
    |false=>
     exact lm
    |true=>exact absurd ⟨rfl,rfl⟩ hok
 ·have hg:A=none:=by rw[<-hA.out,rsO,if_neg hb]
  subst hg;go_enter func44,ntmps44;go_upto_region 1 with fail;generalize w.alloc (.cells #[.int .i64 0,.int .i64 0,.slice none 0 0,.slice none 0 0,.slice none 0 0,.slice none 0 0] 33)=W0 at *;rcases Nat.lt_or_ge 120000 s.size with h1 | h1
  ·have h2:¬ ((s.size:Int)<8):=sH;exact lp
  ·have h2:(s.size:Int)<8:=sH;have h3:¬ ((120000:Int)<s.size):=sH;exact lp
theorem Fc.refl (D:List Nat)(a:Act):Fc D a a:=⟨fun _ _=>rfl,rfl,rfl⟩
theorem Q2 {a:Act}{k:Nat}{v:Value}(hk:k<a.tmps.size):(fun j=>(a.put (some k) v).eval (.tmp j))=fun j=>if j=k then v else a.eval (.tmp j):=by
 funext j;by_cases h:j=k
 ·subst h;simp[Act.put,Act.eval,hk]
 ·have ha:k≠j:=fun e=>h e.symm;simp[Act.put,Act.eval,Za ha,h]
theorem JV (x:Nat->Value):∀ (D:List Nat) (a:Act),(∀ k∈D,k<a.tmps.size)->(AY x D a).tmps.size=a.tmps.size∧(AY x D a).defers=a.defers∧∀ j,(AY x D a).tmps[j]?=if j∈D then some (x j) else a.tmps[j]?
 |[],a,_=>⟨rfl,rfl,fun j=>by simp[AY]⟩
 |k::r,a,h=>by
  have hk:=h k sK
  have hs:(a.put (some k) (x k)).tmps.size=a.tmps.size:=by simp[Act.put]
  obtain⟨h1,h2,h3⟩:=JV x r (a.put (some k) (x k)) (fun j hj=>by rw[hs];exact h j (by simp[hj]))
  refine ⟨h1.trans hs,h2,fun j=>?_⟩
  show (AY x r (a.put (some k) (x k))).tmps[j]?=_
  rw[h3 j]
  by_cases hj:j∈r
  ·simp[hj]
  ·by_cases he:j=k
   ·subst he;simp[hj,Act.put,hk]
   ·have ha:k≠j:=fun e=>he e.symm
    simp[hj,he,Act.put,Za ha]
theorem Fc.eq {D:List Nat}{a0 a:Act}(h:Fc D a0 a)(hD:∀ k∈D,k<a0.tmps.size):a=AY (fun k=>a.eval (.tmp k)) D a0:=by
 obtain⟨h1,h2,h3⟩:=JV (fun k=>a.eval (.tmp k)) D a0 hD;have ht:a.tmps=(AY (fun k=>a.eval (.tmp k)) D a0).tmps:=by
  apply Array.ext_getElem?;intro j;rw[h3 j];split
  ·rename_i hj;have:=hD j hj;rw[<-h.size] at this;simp[Act.eval,this]
  ·rename_i hj;exact h.rest j hj
 have hd:a.defers=(AY (fun k=>a.eval (.tmp k)) D a0).defers:=by rw[h2];exact h.defers
 revert ht hd;generalize AY (fun k=>a.eval (.tmp k)) D a0=b;intro ht hd
 cases a;cases b;simp only at ht hd;rw[ht,hd]
theorem Hg {P:Program}{md:Region.Mode}{l:List Oper}{Q:Exit->Act->World->Prop}{S:World->Prop}{fuel:Nat}{L0:Array Bool}{a0:Act}{u0:World}(W:World)(D J:List Nat)(dst:Nat->Nat)(G:(Nat->Bool)->(Nat->Value)->World->Prop)
  (hdag:Si l.toArray=true) (hL:(L0.size==l.length&&(List.range l.length).all fun i=>J.contains i||L0.getD i true)=true) (hD:(D.all fun k=>decide (k<a0.tmps.size))=true) (hJD:(J.all fun i=>D.contains (dst i))=true)
  (hu:unl l.toArray.size L0<=fuel) (hS:∀ u,Below W.heap.size W u->S u) (hB0:Below W.heap.size W u0) (hG0:G (fun j=>L0.getD j true) (fun k=>a0.eval (.tmp k)) u0)
  (hstep:∀ i∈J,∀ (b:Nat->Bool) (a:Act) (u:World),Fc D a0 a->Below W.heap.size W u->G b (fun k=>a.eval (.tmp k)) u->b i=false->(∀ o,l[i]?=some o->∀ e∈o.after,Region.binds md e=true->b e.on=true)->
   wpOp P l.toArray Q i (fun a' u'=>∃ v,a'=a.put (some (dst i)) v∧Below u.heap.size u u'∧G (fun j=>b j||j==i) (fun k=>if k=dst i then v else a.eval (.tmp k)) u') a u)
  (hdone:∀ (b:Nat->Bool) (x:Nat->Value) (u:World),Below W.heap.size W u->G b x u->(∀ j∈J,b j=true)->Q .normal (AY x D a0) u):wpAnyH P md l.toArray Q S fuel L0 a0 u0:=by
 simp only[Zf,beq_iff_eq,List.all_eq_true,Bool.or_eq_true,List.contains_iff_mem,ZU,List.mem_range] at hL hD hJD;refine lI_ (I:=fun L a u=>L.size=l.length∧Fc D a0 a∧Below W.heap.size W u∧G (fun j=>L.getD j true) (fun k=>a.eval (.tmp k)) u∧∀ i,i<l.length->i∈J∨L.getD i true=true) ?_ ?_ ?_ fuel L0 a0 u0 hu ⟨hL.1,Fc.refl _ _,hB0,hG0,fun i hi=>hL.2 i hi⟩
 ·rintro L a u i ⟨h1,h2,h3,h4,h5⟩ hi;obtain⟨r1,o,r2,r3⟩:=mem_ready.1 hi;have hk:i<l.length:=by have:=(ZG.1 r2).1;simpa using this
  have ha:i∈J:=by
   rcases h5 i hk with h | h
   ·exact h
   ·rw[h] at r1;cases r1
  refine wpOp_mono ?_ (hstep i ha (fun j=>L.getD j true) a u h2 h3 h4 r1 (fun o' hl e he hb=>?_))
  ·rintro a' u' ⟨v,rfl,hb,hg⟩;have hB:=Aa h3 hb;refine ⟨hS u' hB,rR,h2.put v (by have:=hJD i ha;exact this),hB,?_,fun j hj=>?_⟩
   ·rw[Q2 (by rw[h2.size];exact hD _ (by have:=hJD i ha;exact this))];have:(fun j=>(L.setIfInBounds i true).getD j true)=fun j=>L.getD j true||j==i:=by
     funext j;by_cases h:j=i
     ·subst h;simp[h1,hk]
     ·have hh:i≠j:=fun e=>h e.symm;simp[Za hh,h]
    rw[this];exact hg
   ·by_cases h:j=i
    ·subst h;exact .inl ha
    ·have hh:i≠j:=fun e=>h e.symm;rcases h5 j hj with h' | h'
     ·exact .inl h'
     ·exact .inr (by rw[getD_set_ne true hh];exact h')
  ·have ho:l[i]?=some o:=by simpa using r2
   rw[ho] at hl
   cases hl;have:=r3 e he hb
   cases hq:L[e.on]? with
   |none=>simp[hq] at this
   |some z=>simp[hq] at this ⊢;exact this
 ·rintro L a u ⟨h1,h2,h3,h4,h5⟩ hr;have hc:∀ j,j<l.length->L.getD j true=true:=by
   have:∀ n j,j<n->j<l.length->L.getD j true=true:=by
    intro n
    induction n with
    |zero=>intro j hj;omega
    |succ n ih=>
     intro j hj hf
     cases hq:L.getD j true with
     |true=>rfl
     |false=>
      have ho:l.toArray[j]?=some l[j]:=by simp[hf]
      have hm:j∈Region.ready md l.toArray L:=mem_ready.2 ⟨hq,l[j],ho,fun e he _=>by
       have hn:=fR_ hdag ho e he;have:=ih e.on sH sH;have hs:e.on<L.size:=sH
       simp[hs] at this ⊢;exact this⟩
      rw[hr] at hm;cases hm
   exact fun j hj=>this (j+1) j sH hj
  rw[h2.eq hD]
  exact hdone _ _ u h3 h4 (fun j hj=>by
   by_cases hf:j<l.length
   ·exact hc j hf
   ·have:L[j]?=none:=sN
    simp[this])
 ·rintro L a u ⟨h1,_⟩;simpa using h1
end
section
open Go.RowKit Tryz
theorem Iq (p:Dp):p.cs.length=4:=rfl
theorem Lm (l:List Dp):∀ u∈l.flatMap Dp.cs,u.oneCell'=true:=by
 intro u hu;obtain⟨p,_,hp⟩:=ZL.1 hu;simp[Dp.cs] at hp;exact sj
end
section
open Go.RowKit Go.BigFrame Tryz
theorem GB (l:List Fl):BV l l=true:=by
 induction l with
 |nil=>rfl
 |cons p r ih=>simp[BV,Is,ih]
end
section
open Go Go.RowKit Go.BigFrame Tryz
theorem Qh:(prog.info? 89).map (fun i=>(i.zero,i.size,i.bytes))=some (some (.agg #[.int .i64 0,.string .empty,.string .empty,.string .empty]),4,56):=by kernel_rfl
theorem Jb {o:Oper}{a:Act}{w:World}{K:Act->World->Prop}{Q:Exit->Act->World->Prop}(s x:Operand)(ho:o.op=.call {callee:=.builtin .append,args:=#[s,x],argTypes:=#[25,25]})
  (B:Nat) (da:Option Addr) (dn dcap:Nat) (ld:List Dp) (hs:a.eval s=.slice da dn dcap) (hd:Ac Dp.cs 4 89 w B da dn dcap ld)
  (sa:Option Addr) (sn scap:Nat) (ls:List Dp) (hx:a.eval x=.slice sa sn scap) (hsrc:Pd w sa sn ls) (hspot:∀ ad,sa=some ad->ad.spot=none) (hnone:sa=none->scap=0)
  (tot:Nat) (htot:dn+sn=tot) (h63:tot<=9000000) (hbase:B<=w.heap.size)
  (h:∀ a' cap' w',Ac Dp.cs 4 89 w' B a' tot cap' (ld++ls)->w.grownBy w' (Value.ownBlock (.slice da dn dcap))->K (a.put o.dst (.slice a' tot cap')) w'):o.wp prog a w K Q:=by
 obtain⟨i0,hi,ha,hb,hc⟩:=info_parts Qh;exact ay_ s x _ ho B _ i0 _ 56 underlying25 hi ha hb hc rfl sJ Iq Lm da dn dcap ld hs hd sa sn scap ls hx hsrc hspot hnone tot htot sO sH hbase h
theorem Bv.l {w:World}{v:Value}{d:Dk}(h:Bv w v d):Ju w v d:=by
 obtain⟨la,ln,lc,sa,sn,sc,oa,on,oc,hv,h1,h2,h3⟩:=h;exact⟨la,ln,lc,sa,sn,sc,oa,on,oc,hv,h1.sl,h2.sl,h3.sl⟩
theorem FF {B:Nat}{t:TypeId}{u:World}(h:B<=u.heap.size):Kb B t (u.alloc (.cells #[] t)) (.slice (some ⟨u.heap.size,0,none⟩) 0 0):=⟨u.heap.size,rfl,Blk.new _ _ _,h⟩
theorem Gb {α:Type}{cs:α->List Value}{sz:Nat}{t:TypeId}{B n cap:Nat}{l:List α}{u:World}{a:Option Addr}(h:Ac cs sz t u B a n cap l):GK cs sz t B n l u (.slice a n cap):=⟨a,cap,rfl,h⟩
theorem Blk.put3 {w:World}{b:Nat}{c0 c1 c2 x y z:Value}{t:TypeId}(h:Blk w b #[c0,c1,c2] t):Blk (((w.setCell ⟨b,0,none⟩ x).setCell ⟨b,1,none⟩ y).setCell ⟨b,2,none⟩ z) b #[x,y,z] t:=by
 have:=((h.set 0 x).set 1 y).set 2 z;simpa using this
theorem AW (w:World)(b:Nat)(x y z:Value):w.grownBy (((w.setCell ⟨b,0,none⟩ x).setCell ⟨b,1,none⟩ y).setCell ⟨b,2,none⟩ z) (some b):=af_ (af_ (af_ (Yh _ _) _ _) _ _) _ _
theorem rA{p:Prop}(h:p:=by have:=hB.size;omega):p:=h
theorem rM{p:Prop}(h:p:=by simpa using e0):p:=h
theorem oy{p:Prop}(h:p:=by simpa using Gb R3):p:=h
theorem B7 (v:Value)(d:Dk)(w:World)(h:Bv w v d)(hn:d.live.length<=4000000∧d.safe.length<=4000000∧d.ops.length<=4000000) :
  Calls prog 120 #[v] w fun e w'=>(∃ v',e=.returned v'∧A5 (w.heap.size+2) w' v' d)∧Below w.heap.size w w':=by
 obtain⟨la,ln,lc,sa,sn,sc,oa,on,oc,rfl,hL,hS,hO⟩:=h;rw[hL.sl.len,hS.sl.len,hO.sl.len] at hn;obtain⟨hD,hE,hF⟩:=hn;obtain⟨live,safe,ops⟩:=d;simp only at hL hS hO;go_enter func120,ntmps120;go_wp2_with fail;have C:=(Blk.new w #[.slice la ln lc,.slice sa sn sc,.slice oa on oc] 27).alloc (.cells #[.slice none 0 0,.slice none 0 0,.slice none 0 0] 27);have E:Blk ((w.alloc (.cells #[.slice la ln lc,.slice sa sn sc,.slice oa on oc] 27)).alloc (.cells #[.slice none 0 0,.slice none 0 0,.slice none 0 0] 27)) (w.heap.size+1) _ _:=Blk.new' _ _ _ _ sK;have hl:Below w.heap.size w ((w.alloc (.cells #[.slice la ln lc,.slice sa sn sc,.slice oa on oc] 27)).alloc (.cells #[.slice none 0 0,.slice none 0 0,.slice none 0 0] 27)):=sM;have hy:((w.alloc (.cells #[.slice la ln lc,.slice sa sn sc,.slice oa on oc] 27)).alloc (.cells #[.slice none 0 0,.slice none 0 0,.slice none 0 0] 27)).heap.size=w.heap.size+2:=sK;generalize (w.alloc (.cells #[.slice la ln lc,.slice sa sn sc,.slice oa on oc] 27)).alloc (.cells #[.slice none 0 0,.slice none 0 0,.slice none 0 0] 27)=W at *;obtain⟨c0,c1,c2⟩:=C.three;have hm:=hL.below hl;have hp:=hS.below hl;have ho:=hO.below hl;have hq:∀ u,Below W.heap.size W u->(fun u=>u.cell? ⟨w.heap.size,0,none⟩=some (.slice la ln lc)∧u.cell? ⟨w.heap.size,1,none⟩=some (.slice sa sn sc)∧u.cell? ⟨w.heap.size,2,none⟩=some (.slice oa on oc)) u:=fun u hu=>⟨Ab hu c0,Ab hu c1,Ab hu c2⟩;have hs:Below W.heap.size W W.drew:=(Yg _ _).drew;have hH:w.heap.size+2<=W.heap.size:=sH;clear hy;have hx:(fun u=>u.cell? ⟨w.heap.size,0,none⟩=some (.slice la ln lc)∧u.cell? ⟨w.heap.size,1,none⟩=some (.slice sa sn sc)∧u.cell? ⟨w.heap.size,2,none⟩=some (.slice oa on oc)) W.drew:=hq _ hs;refine ar_ (S:=(fun u=>u.cell? ⟨w.heap.size,0,none⟩=some (.slice la ln lc)∧u.cell? ⟨w.heap.size,1,none⟩=some (.slice sa sn sc)∧u.cell? ⟨w.heap.size,2,none⟩=some (.slice oa on oc))) 13 sI sI ?_;refine tk 1 ?_;refine tk 2 ?_;refine tk 5 ?_;refine tk 6 ?_;refine tk 9 ?_;refine tk 10 ?_;refine Hg W [3,6,7,10,11,14,15] [0,3,4,7,8,11,12] (fun i=>[3,0,0,6,7,0,0,10,11,0,0,14,15].getD i 0) (fun b x u=>(b 0=true->Kb (w.heap.size+2) 39 u (x 3))∧(b 3=true->GK Fl.cs 2 39 (w.heap.size+2) ln live u (x 6))∧(b 4=true->Kb (w.heap.size+2) 39 u (x 7))∧(b 7=true->GK Fl.cs 2 39 (w.heap.size+2) sn safe u (x 10))∧(b 8=true->Kb (w.heap.size+2) 89 u (x 11))∧(b 11=true->GK Dp.cs 4 89 (w.heap.size+2) on ops u (x 14))∧(b 12=true->∃ y0 y1 y2,x 15=.agg #[y0,y1,y2]∧GK Fl.cs 2 39 (w.heap.size+2) ln live u y0∧GK Fl.cs 2 39 (w.heap.size+2) sn safe u y1∧GK Dp.cs 4 89 (w.heap.size+2) on ops u y2)) sI sI sI sI (Zm sI) hq hs ?init ?step ?done
 case init=>exact⟨(fun h=>by cases h),(fun h=>by cases h),(fun h=>by cases h),(fun h=>by cases h),(fun h=>by cases h),(fun h=>by cases h),(fun h=>by cases h)⟩
 case step=>
  intro i hi b a u hA hB hG hz ha;obtain⟨g0,g3,g4,g7,g8,he,hc⟩:=hG;simp only[Zn,List.not_mem_nil,or_false] at hi;rcases hi with rfl | rfl | rfl | rfl | rfl | rfl | rfl
  ·refine cL_ rfl rfl (fun K hK=>?_);have hb:Below u.heap.size u (u.alloc (.cells #[] 39)):=(Yg _ _).alloc (Zd _) _;go_simp;exact hK.out _ _ ⟨_,rfl,hb,⟨(fun _=>(by simpa using FF rA)),(fun h=>(by simpa using (g3 sP).below hb)),(fun h=>(by simpa using (g4 sP).below hb)),(fun h=>(by simpa using (g7 sP).below hb)),(fun h=>(by simpa using (g8 sP).below hb)),(fun h=>(by simpa using (he sP).below hb)),(fun h=>(by obtain⟨y0,y1,y2,e0,e1,e2,e3⟩:=hc sP;exact⟨y0,y1,y2,rM,e1.below hb,e2.below hb,e3.below hb⟩))⟩⟩
  ·obtain⟨lb,e1,L1,l2⟩:=g0 (ha _ rfl ⟨0,.data⟩ sK rfl);refine cL_ rfl rfl (fun K hK=>?_);obtain⟨i0,hf,hh,hj,hk⟩:=info_parts IB;refine eQ_ (.tmp 3) (.tmp 5) 24 rfl ((w.heap.size+2)) 39 i0 _ 32 underlying24 hf hh hj hk rfl sJ Fy Fz lb e1 L1 l2 la ln lc live (by rw[hA.eval sJ];rfl) (hm.sl.below hB) hm.spot hm.nil sO sH rA (fun a3 c3 u3 R3 hb _ _=>?_);exact hK.out _ _ ⟨_,rfl,hb,⟨(fun h=>(by simpa using (g0 sP).below hb)),(fun _=>oy),(fun h=>(by simpa using (g4 sP).below hb)),(fun h=>(by simpa using (g7 sP).below hb)),(fun h=>(by simpa using (g8 sP).below hb)),(fun h=>(by simpa using (he sP).below hb)),(fun h=>(by obtain⟨y0,y1,y2,e0,e1,e2,e3⟩:=hc sP;exact⟨y0,y1,y2,rM,e1.below hb,e2.below hb,e3.below hb⟩))⟩⟩
  ·refine cL_ rfl rfl (fun K hK=>?_);have hb:Below u.heap.size u (u.alloc (.cells #[] 39)):=(Yg _ _).alloc (Zd _) _;go_simp;exact hK.out _ _ ⟨_,rfl,hb,⟨(fun h=>(by simpa using (g0 sP).below hb)),(fun h=>(by simpa using (g3 sP).below hb)),(fun _=>(by simpa using FF rA)),(fun h=>(by simpa using (g7 sP).below hb)),(fun h=>(by simpa using (g8 sP).below hb)),(fun h=>(by simpa using (he sP).below hb)),(fun h=>(by obtain⟨y0,y1,y2,e0,e1,e2,e3⟩:=hc sP;exact⟨y0,y1,y2,rM,e1.below hb,e2.below hb,e3.below hb⟩))⟩⟩
  ·obtain⟨lb,e1,L1,l2⟩:=g4 (ha _ rfl ⟨4,.data⟩ sK rfl);refine cL_ rfl rfl (fun K hK=>?_);obtain⟨i0,hf,hh,hj,hk⟩:=info_parts IB;refine eQ_ (.tmp 7) (.tmp 9) 24 rfl ((w.heap.size+2)) 39 i0 _ 32 underlying24 hf hh hj hk rfl sJ Fy Fz lb e1 L1 l2 sa sn sc safe (by rw[hA.eval sJ];rfl) (hp.sl.below hB) hp.spot hp.nil sO sH rA (fun a3 c3 u3 R3 hb _ _=>?_);exact hK.out _ _ ⟨_,rfl,hb,⟨(fun h=>(by simpa using (g0 sP).below hb)),(fun h=>(by simpa using (g3 sP).below hb)),(fun h=>(by simpa using (g4 sP).below hb)),(fun _=>oy),(fun h=>(by simpa using (g8 sP).below hb)),(fun h=>(by simpa using (he sP).below hb)),(fun h=>(by obtain⟨y0,y1,y2,e0,e1,e2,e3⟩:=hc sP;exact⟨y0,y1,y2,rM,e1.below hb,e2.below hb,e3.below hb⟩))⟩⟩
  ·refine cL_ rfl rfl (fun K hK=>?_);have hb:Below u.heap.size u (u.alloc (.cells #[] 89)):=(Yg _ _).alloc (Zd _) _;go_simp;exact hK.out _ _ ⟨_,rfl,hb,⟨(fun h=>(by simpa using (g0 sP).below hb)),(fun h=>(by simpa using (g3 sP).below hb)),(fun h=>(by simpa using (g4 sP).below hb)),(fun h=>(by simpa using (g7 sP).below hb)),(fun _=>(by simpa using FF rA)),(fun h=>(by simpa using (he sP).below hb)),(fun h=>(by obtain⟨y0,y1,y2,e0,e1,e2,e3⟩:=hc sP;exact⟨y0,y1,y2,rM,e1.below hb,e2.below hb,e3.below hb⟩))⟩⟩
  ·obtain⟨lb,e1,L1,l2⟩:=g8 (ha _ rfl ⟨8,.data⟩ sK rfl);refine cL_ rfl rfl (fun K hK=>?_);obtain⟨i0,hf,hh,hj,hk⟩:=info_parts Qh;refine eQ_ (.tmp 11) (.tmp 13) 25 rfl ((w.heap.size+2)) 89 i0 _ 56 underlying25 hf hh hj hk rfl sJ Iq Lm lb e1 L1 l2 oa on oc ops (by rw[hA.eval sJ];rfl) (ho.sl.below hB) ho.spot ho.nil sO sH rA (fun a3 c3 u3 R3 hb _ _=>?_);exact hK.out _ _ ⟨_,rfl,hb,⟨(fun h=>(by simpa using (g0 sP).below hb)),(fun h=>(by simpa using (g3 sP).below hb)),(fun h=>(by simpa using (g4 sP).below hb)),(fun h=>(by simpa using (g7 sP).below hb)),(fun h=>(by simpa using (g8 sP).below hb)),(fun _=>oy),(fun h=>(by obtain⟨y0,y1,y2,e0,e1,e2,e3⟩:=hc sP;exact⟨y0,y1,y2,rM,e1.below hb,e2.below hb,e3.below hb⟩))⟩⟩
  ·refine cL_ rfl rfl (fun K hK=>?_);have r0:=g3 (ha _ rfl ⟨3,.data⟩ sK rfl);have r1:=g7 (ha _ rfl ⟨7,.data⟩ sK rfl);have r2:=he (ha _ rfl ⟨11,.data⟩ sK rfl);have hb:Below u.heap.size u u:=Yg _ _;have hC:∀ k,a.eval (.tmp k)=a.tmps.getD k undef:=fun _=>rfl;obtain⟨ya0,yc0,ey0,ry0⟩:=r0;have ez0:a.tmps[6]?.getD undef=.slice ya0 ln yc0:=by simpa [Act.eval] using ey0
   obtain⟨ya1,yc1,ey1,ry1⟩:=r1;have ez1:a.tmps[10]?.getD undef=.slice ya1 sn yc1:=by simpa [Act.eval] using ey1
   obtain⟨ya2,yc2,ey2,ry2⟩:=r2;have ez2:a.tmps[14]?.getD undef=.slice ya2 on yc2:=by simpa [Act.eval] using ey2
   go_simp;refine hK.out _ _ ⟨_,rfl,hb,⟨(fun h=>(by simpa using (g0 sP).below hb)),(fun h=>(by simpa using (g3 sP).below hb)),(fun h=>(by simpa using (g4 sP).below hb)),(fun h=>(by simpa using (g7 sP).below hb)),(fun h=>(by simpa using (g8 sP).below hb)),(fun h=>(by simpa using (he sP).below hb)),(fun _=>⟨_,_,_,rfl,Gb ry0,Gb ry1,Gb ry2⟩)⟩⟩
 case done=>
  rintro b x u hB ⟨_,_,_,_,_,_,hc⟩ hr;obtain⟨y0,y1,y2,e0,⟨a0,k0,rfl,R0⟩,⟨a1,k1,rfl,R1⟩,⟨a2,k2,rfl,R2⟩⟩:=hc (hr 12 sK);refine lastL rfl ?_;simp only[AY,YE,List.foldl_nil,e0];(try simp only[Act.put,Yj,Yq,Yr]);have E1:=E.below hB;have hw:=Aa hl hB;obtain⟨z0,z1,z2⟩:=E1.three;have f0:=E1.frozen 0;have f1:=E1.frozen 1;have f2:=E1.frozen 2;clear C c0 c1 c2 hq hx;go_wp2;have E2:=E1.put3 (x:=.slice a0 ln k0) (y:=.slice a1 sn k1) (z:=.slice a2 on k2);have hg:=AW u (w.heap.size+1) (.slice a0 ln k0) (.slice a1 sn k1) (.slice a2 on k2);have DR:A5 (w.heap.size+2) u (.agg #[.slice a0 ln k0,.slice a1 sn k1,.slice a2 on k2]) ⟨live,safe,ops⟩:=⟨_,_,_,_,_,_,_,_,_,rfl,R0,R1,R2⟩;have ht:=DR.off hg sH;have hv:=ao_ hw hg sH;generalize ((u.setCell ⟨w.heap.size+1,0,none⟩ (.slice a0 ln k0)).setCell ⟨w.heap.size+1,1,none⟩ (.slice a1 sn k1)).setCell ⟨w.heap.size+1,2,none⟩ (.slice a2 on k2)=W8 at *;refine YW (results_cell_row rfl _ W8 (w.heap.size+1) _ _ _ _ rfl E2 underlying27 rfl sI) rfl ?_;exact⟨⟨_,rfl,ht⟩,hv⟩
def DE (d:Dk)(o:Dp):Dk×Int:=
 if AP o=false then (d,2) else if (doF d.live o).2=false then (d,3) else if (decide (d.ops.length=200)||!Aq (doF d.live o).1)=true then (d,4) else (⟨(doF d.live o).1,d.safe,d.ops++[o]⟩,0)
def noD:Dk:=⟨[],[],[]⟩
def Fh (d:Dk):Dk:=if Az d=true then ⟨d.live,d.live,[]⟩ else noD
theorem BR {d:Dk}(h:Az d=true):Aq d.live=true∧Aq d.safe=true∧d.ops.length<=200:=by
 simp only[Az,Zf,ZU] at h;exact⟨h.1.1.1,h.1.1.2,h.1.2⟩
theorem G7 (B:Nat)(w:World):A5 B w (.agg #[.slice none 0 0,.slice none 0 0,.slice none 0 0]) noD:=⟨_,_,_,_,_,_,_,_,_,rfl,aB_,aB_,aB_⟩
theorem Av {w:World}{b:Nat}{c0 c1 c2:Value}{t:TypeId}(h:Blk w b #[c0,c1,c2] t):(w.cell? ⟨b,0,none⟩=some c0∧w.cell? ⟨b,1,none⟩=some c1∧w.cell? ⟨b,2,none⟩=some c2)∧w.frozen? ⟨b,0,none⟩=false∧w.frozen? ⟨b,1,none⟩=false∧w.frozen? ⟨b,2,none⟩=false:=⟨h.three,h.frozen 0,h.frozen 1,h.frozen 2⟩
theorem Fu {w:World}{b:Nat}{c0 c1 c2 c3:Value}{t:TypeId}(h:Blk w b #[c0,c1,c2,c3] t):w.cell? ⟨b,0,none⟩=some c0∧w.cell? ⟨b,1,none⟩=some c1∧w.cell? ⟨b,2,none⟩=some c2∧w.cell? ⟨b,3,none⟩=some c3:=⟨h.cell 0,h.cell 1,h.cell 2,h.cell 3⟩
theorem IT (w:World)(r:Dp)(t:TypeId)(b:Nat)(hb:b=w.heap.size):AH Dp.cs 4 (w.alloc (.cells #[.int .i64 r.k,.string r.nm,.string r.tt,.string r.d] t)) (some ⟨b,0,none⟩) 1 [r]:=by
 subst hb;exact op_ (x:=r) Iq (Blk.new w (Dp.cs r).toArray t)
def TX (v:Value):Prop:=∀ la ln lc sa sn sc o,v=.agg #[.slice la ln lc,.slice sa sn sc,o]->∀ x y,la=some x->sa=some y->x.block≠y.block
theorem Tj {la sa:Option Addr}{ln lc sn sc:Nat}{o:Value}(h:∀ x y,la=some x->sa=some y->x.block≠y.block):TX (.agg #[.slice la ln lc,.slice sa sn sc,o]):=by
 intro la' ln' lc' sa' sn' sc' o' e x y hx hy
 cases e;exact h x y hx hy
theorem rJ{p:Prop}(h:p:=by have:=zC.out;omega):p:=h
theorem lj{p:Prop}(h:p:=by
 obtain⟨la9,ln9,lc9,sa9,sn9,sc9,oa9,on9,oc9,rfl⟩:=R9.at.l.cells;obtain⟨⟨z0,z1,z2⟩,f0,f1,f2⟩:=Av K2;clear x0 x1 x2;go_wp2;have E8:=K2.put3 (x:=.slice la9 ln9 lc9) (y:=.slice sa9 sn9 sc9) (z:=.slice oa9 on9 oc9);have qX:=AW w9 (w.heap.size+1+1) (.slice la9 ln9 lc9) (.slice sa9 sn9 sc9) (.slice oa9 on9 oc9);have zJ:=R9.off qX rJ;have qB:=ao_ qR qX sH;generalize ((w9.setCell ⟨w.heap.size+1+1,0,none⟩ (.slice la9 ln9 lc9)).setCell ⟨w.heap.size+1+1,1,none⟩ (.slice sa9 sn9 sc9)).setCell ⟨w.heap.size+1+1,2,none⟩ (.slice oa9 on9 oc9)=W8 at *;refine YW (ad_ rfl _ W8 (w.heap.size+1+1) _ _ _ _ _ rfl E8 underlying27 rfl sI rfl) rfl ?_
 exact⟨⟨_,by rw[qO.out]<;>rfl,by rw[qO.out];exact zJ.mono rJ,fun h0=>by rw[qO.out] at h0;simp at h0⟩,qB⟩):p:=h
theorem oB{p:Prop}(h:p:=by have:=qe.size;have:=zM.out;show _<=_;omega):p:=h
theorem o9{p:Prop}(h:p:=by show _=_;rw[qx];simp):p:=h
theorem fj{p:Prop}(h:p:=by rw[qx];exact ((Blk.new w _ _).alloc _).alloc _):p:=h
theorem Es (v:Value)(d:Dk)(o:Dp)(w:World)(h:Bv w v d)(hd:Dg d)(hf:Aq d.live=true)(ho:Gw o∧o.d.size<=10000000) :
  Calls prog 66 #[v,.agg #[.int .i64 o.k,.string o.nm,.string o.tt,.string o.d]] w fun e w'=>(∃ v',e=.returned (.tuple #[v',.int .i64 (DE d o).2])∧A5 (w.heap.size+1) w' v' (DE d o).1∧((DE d o).2=0->TX v'))∧Below w.heap.size w w':=by
 have hD:=h;obtain⟨la,ln,lc,sa,sn,sc,oa,on,oc,rfl,hL,hS,hO⟩:=h;have he:d.live.length<=4000000∧d.safe.length<=4000000∧d.ops.length<=4000000:=⟨hd.live.1,hd.safe.1,hd.ops.1⟩;have hT:ln<=60:=by rw[<-hL.sl.len];exact (Ba hf).1
 have hV:on<=4000000:=by rw[<-hO.sl.len];exact hd.ops.1
 have hP:∀ f∈d.live,f.d.size<=100000000:=fun f hm=>by have:=Ck hm;have:=(Ba hf).2.1;omega
 have hN:=Kl hf ho.1 ho.2;have hR:=H4 d.live o;have lL:Hid (d.live.length=ln):=hL.sl.len;have lO:Hid (d.ops.length=on):=hO.sl.len;have ha:Hid (DE d o=if AP o=false then (d,2) else if (doF d.live o).2=false then (d,3) else if (decide (d.ops.length=200)||!Aq (doF d.live o).1)=true then (d,4) else (⟨(doF d.live o).1,d.safe,d.ops++[o]⟩,0)):=rfl;obtain⟨W0,qx⟩:∃ W0,W0=((w.alloc (.cells #[.slice la ln lc,.slice sa sn sc,.slice oa on oc] 27)).alloc (.cells #[.int .i64 o.k,.string o.nm,.string o.tt,.string o.d] 89)).alloc (.cells #[.slice none 0 0,.slice none 0 0,.slice none 0 0] 27):=⟨_,rfl⟩;have hu:Below w.heap.size w W0:=o8;have K0:Blk W0 w.heap.size #[.slice la ln lc,.slice sa sn sc,.slice oa on oc] 27:=fj;have K1:Blk W0 (w.heap.size+1) #[.int .i64 o.k,.string o.nm,.string o.tt,.string o.d] 89:=by rw[qx];exact (Blk.new' _ _ _ _ sK).alloc _
 have K2:Blk W0 (w.heap.size+1+1) #[.slice none 0 0,.slice none 0 0,.slice none 0 0] 27:=by rw[qx];exact Blk.new' _ _ _ _ sK
 have zM:Hid (W0.heap.size=w.heap.size+1+1+1):=o9;go_enter func66,ntmps66;go_wp2_with fail;rw[<-qx];clear qx;refine (HR o W0 ho.1).mono ?_;rintro e w1 ⟨rfl,qe⟩;replace K0:=K0.below qe;replace K1:=K1.below qe;replace K2:=K2.below qe;have zC:Hid (w.heap.size+1+1+1<=w1.heap.size):=oB;replace qe:=Aa hu qe;clear hu zM
 cases hw:AP o
 ·rw[hw] at ha;have qO:Hid (DE d o=(d,2)):=ha.out;clear ha;obtain⟨x0,x1,x2⟩:=K0.three;go_wp2_with fail;refine (B7 _ d w1 (hD.below qe) he).mono ?_;rintro e w9 ⟨⟨v9,rfl,R9⟩,qR⟩;have ht:=qR.size;replace K2:=K2.below qR;replace qR:=Aa qe qR;exact lj
 ·rw[hw] at ha;replace ha:Hid (DE d o=if (doF d.live o).2=false then (d,3) else if (decide (d.ops.length=200)||!Aq (doF d.live o).1)=true then (d,4) else (⟨(doF d.live o).1,d.safe,d.ops++[o]⟩,0)):=by show _=_;rw[ha.out];simp
  obtain⟨x0,x1,x2⟩:=K0.three;obtain⟨y0,y1,y2,y3⟩:=Fu K1;go_wp2_with fail;refine (Gc la ln lc d.live o w1 (hL.sl.below qe) hL.spot hL.nil sH hP sH).mono ?_;rintro e w2 ⟨⟨a2,n2,c2,rfl,R2⟩,hb⟩;have hW:=hb.size;replace K0:=K0.below hb;replace K1:=K1.below hb;replace K2:=K2.below hb;replace hb:=Aa qe hb;have hU:n2<=61:=by rw[<-R2.sl.len];have:=lL.out;omega
  clear x0 x1 x2 y0 y1 y2 y3 qe
  cases hz:(doF d.live o).2
  ·have qO:Hid (DE d o=(d,3)):=by show _=_;rw[ha.out,hz];simp
   clear ha;obtain⟨x0,x1,x2⟩:=K0.three;go_wp2_with fail;refine (B7 _ d w2 (hD.below hb) he).mono ?_;rintro e w9 ⟨⟨v9,rfl,R9⟩,qR⟩;have ht:=qR.size;replace K2:=K2.below qR;replace qR:=Aa hb qR;exact lj
  ·replace ha:Hid (DE d o=if (decide (d.ops.length=200)||!Aq (doF d.live o).1)=true then (d,4) else (⟨(doF d.live o).1,d.safe,d.ops++[o]⟩,0)):=by show _=_;rw[ha.out,hz];simp
   by_cases h200:on=200
   ·have qO:Hid (DE d o=(d,4)):=by show _=_;rw[ha.out,lO.out,h200];simp
    clear ha;subst h200;obtain⟨x0,x1,x2⟩:=K0.three;go_wp2_with fail;clear x0 x1 x2;obtain⟨x0,x1,x2⟩:=K0.three;refine (B7 _ d w2 (hD.below hb) he).mono ?_;rintro e w9 ⟨⟨v9,rfl,R9⟩,qR⟩;have ht:=qR.size;replace K2:=K2.below qR;replace qR:=Aa hb qR;exact lj
   ·have hI:¬ (on:Int)=200:=sH;have hQ:((on:Int)==200)=false:=by simpa using hI
    obtain⟨x0,x1,x2⟩:=K0.three;go_wp2_with fail;refine (Bu a2 n2 c2 (doF d.live o).1 w2 R2.sl hN sH).mono ?_;rintro e w3 ⟨rfl,hc⟩;have hX:=hc.size;replace K0:=K0.below hc;replace K1:=K1.below hc;replace K2:=K2.below hc;replace R2:=R2.below hc;replace hc:=Aa hb hc;clear x0 x1 x2
    cases hv:Aq (doF d.live o).1
    ·have qO:Hid (DE d o=(d,4)):=by show _=_;rw[ha.out,hv];simp
     clear ha;obtain⟨x0,x1,x2⟩:=K0.three;go_wp2_with fail;refine (B7 _ d w3 (hD.below hc) he).mono ?_;rintro e w9 ⟨⟨v9,rfl,R9⟩,qR⟩;have ht:=qR.size;replace K2:=K2.below qR;replace qR:=Aa hc qR;exact lj
    ·have qO:Hid (DE d o=(⟨(doF d.live o).1,d.safe,d.ops++[o]⟩,0)):=by show _=_;rw[ha.out,hv,lO.out,YV h200];simp
     clear ha;generalize (doF d.live o).1=nx at *;obtain⟨x0,x1,x2⟩:=K0.three;go_wp2_with fail;refine (B7 _ d w3 (hD.below hc) he).mono ?_;rintro e w4 ⟨⟨v4,rfl,R4⟩,hh⟩;have hY:=hh.size;have hr:Hid (∀ x,a2=some x->x.block<w3.heap.size):=fun x hx=>(R2.block x hx).2;replace K1:=K1.below hh;replace K2:=K2.below hh;replace R2:=R2.below hh;replace hh:=Aa hc hh;obtain⟨la4,ln4,lc4,sa4,sn4,sc4,oa4,on4,oc4,rfl,hB,hp,hk⟩:=R4;have hs:Hid (∀ x y,a2=some x->sa4=some y->x.block≠y.block):=fun x y hx hy=>by have h1:=hr.out x hx;have h2:=(hp.block y hy).1;omega
     have hq:on4=on:=by rw[<-hk.sl.len,lO.out]
     subst hq;clear x0 x1 x2 K0 hb;have hg:Below w4.heap.size w4 ((w4.alloc (.cells #[.slice a2 n2 c2,.slice sa4 sn4 sc4,.slice oa4 on4 oc4] 27)).alloc (.cells #[.int .i64 o.k,.string o.nm,.string o.tt,.string o.d] 89)):=sM;obtain⟨y0,y1,y2,y3⟩:=Fu K1;have ya0:=fun ob=>Aj (w:=w4) ob y0;have ya1:=fun ob=>Aj (w:=w4) ob y1;have ya2:=fun ob=>Aj (w:=w4) ob y2;have ya3:=fun ob=>Aj (w:=w4) ob y3;go_wp2_with (at_builtin;refine ag_ rfl (fun K hK=>Jb _ _ rfl (w3.heap.size+2) oa4 on4 oc4 d.ops rfl (hk.below hg) _ 1 1 [o] rfl (IT _ o _ _ sK) (fun ad h=>sV) (fun h=>sY) (on4+1) rfl sH (by simp only[YN];omega) (fun a6 c6 w6 R6 hj=>hK _ _ ?_));refine KR.out ?_);refine KR.mk ?_;have hn:=(hk.below hg).rowTy (m:=on4) (k:=oc4);have D5:Blk ((w4.alloc (.cells #[.slice a2 n2 c2,.slice sa4 sn4 sc4,.slice oa4 on4 oc4] 27)).alloc (.cells #[.int .i64 o.k,.string o.nm,.string o.tt,.string o.d] 89)) w4.heap.size _ _:=(Blk.new w4 #[.slice a2 n2 c2,.slice sa4 sn4 sc4,.slice oa4 on4 oc4] 27).alloc _;have D6:=D5.ty hj hn sJ;have K6:=(K2.below hg).ty hj hn sJ;have hC:=(R2.below hg).ty hj hn sJ;have hG:=(hp.below hg).ty hj hn sJ;have hJ:Below w.heap.size w w6:=(Aa hh hg).grown hj (Aa hh hg).size (aG_ fun ad e=>by have:=(hk.block ad e).1;have:=zC.out;omega);clear hn hj hg D5 K2 K1 R2 hp hB hk ya0 ya1 ya2 ya3 y0 y1 y2 y3;obtain⟨⟨p0,p1,p2⟩,q0,q1,q2⟩:=Av D6;obtain⟨⟨z0,z1,z2⟩,f0,f1,f2⟩:=Av K6;have m1:¬ w4.heap.size=w.heap.size+1+1:=rJ;have m2:¬ w.heap.size+1+1=w4.heap.size:=rJ;go_wp2;have hl:w6.grownBy (w6.setCell ⟨w4.heap.size,2,none⟩ (.slice a6 (on4+1) c6)) (some w4.heap.size):=af_ (Yh _ _) _ _;have K7:=K6.grown hl m2;have hE:=hC.ty hl (aa_ D6) sJ;have hH:=hG.ty hl (aa_ D6) sJ;have hF:=R6.ty hl (aa_ D6) sJ;have hM:=ao_ hJ hl rJ;generalize w6.setCell ⟨w4.heap.size,2,none⟩ (.slice a6 (on4+1) c6)=W7 at *;have hA:A5 (w.heap.size+1+1+1) W7 (.agg #[.slice a2 n2 c2,.slice sa4 sn4 sc4,.slice a6 (on4+1) c6]) ⟨nx,d.safe,d.ops++[o]⟩:=⟨_,_,_,_,_,_,_,_,_,rfl,hE.mono rJ,hH.mono rJ,hF.mono rJ⟩;have E8:=K7.put3 (x:=.slice a2 n2 c2) (y:=.slice sa4 sn4 sc4) (z:=.slice a6 (on4+1) c6);have qX:=AW W7 (w.heap.size+1+1) (.slice a2 n2 c2) (.slice sa4 sn4 sc4) (.slice a6 (on4+1) c6);have zJ:=hA.off qX sH;have qB:=ao_ hM qX sH;generalize ((W7.setCell ⟨w.heap.size+1+1,0,none⟩ (.slice a2 n2 c2)).setCell ⟨w.heap.size+1+1,1,none⟩ (.slice sa4 sn4 sc4)).setCell ⟨w.heap.size+1+1,2,none⟩ (.slice a6 (on4+1) c6)=W8 at *;refine YW (ad_ rfl _ W8 (w.heap.size+1+1) _ _ _ _ _ rfl E8 underlying27 rfl sI rfl) rfl ?_;exact⟨⟨_,by rw[qO.out]<;>rfl,by rw[qO.out];exact zJ.mono sH,fun _=>Tj hs.out⟩,qB⟩
theorem Rj {d:Dk}(h:Az d=false):Fh d=noD:=by simp[Fh,h]
theorem J2 {d:Dk}(h:Az d=true):Fh d=⟨d.live,d.live,[]⟩:=by simp[Fh,h]
theorem mR{p:Prop}(h:p:=by
 refine YW (results_cell_row rfl _ W8 (w.heap.size+1) _ _ _ _ rfl E8 underlying27 rfl sI) rfl ?_
 exact⟨⟨_,rfl,by rw[hr.out];exact zJ.mono sH⟩,qB⟩):p:=h
end
end Go.Proofs.YteejlahappbalaaGreatDoor
