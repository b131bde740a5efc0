/- A pool read line by line, as the program reads it: plain. A contract of the library, laid at this program. A contract of the library, laid at this program. The variables that the program reads where it reads a text; numbers and flags. The library's cutting of texts, and ours: plain. Words of a line, by the model. -/
import Derived.Test.YtigldeccfpkdmaaGreatDoorK01
import Derived.Test.YtigldeccfpkdmaaGreatDoorK09
import Derived.Test.YtigldeccfpkdmaaGreatDoorProg
import Derived.Shelf.Strconv.ErrVarParseInt
import Derived.Shelf.Strings.Prefix
import Derived.Test.YtigldeccfpkdmaaGreatDoorK02
import Derived.Test.YtigldeccfpkdmaaGreatDoorK03
import Derived.Lib.Split
import Derived.Test.YtigldeccfpkdmaaGreatDoorK04
namespace Go.Proofs.YtigldeccfpkdmaaGreatDoor
open Go
set_option maxHeartbeats 20000000
set_option maxRecDepth 100000
theorem b5_:∀ (l:List ByteArray),wordL l=joW (l.map (·.data.toList))
 |[]=>rfl
 |[a]=>bI_ a
 |a::b::l=>by
  rw [bb_,b5_ (b::l)]
  simp [joW]
def poolK:By:=[112,111,111,108]
def exK:By:=[101,120,116,101,110,116]
def volK:By:=[118,111,108,117,109,101]
def fileK:By:=[102,105,108,101]
def partK:By:=[112,97,114,116]
def refK:By:=[114,101,102]
def lateK:By:=[108,97,116,101]
def flagP (s:By):Option Bool:=if s=[48] then some false else if s=[49] then some true else none
def exP (l:By):Option Ex:=match wdsN 2 l with
 |[_,a,d]=>(numP a).map fun n=>⟨n,bA d⟩
 |_=>none
def ptP (l:By):Option Pt:=match wdsN 3 l with
 |[_,a,f,n]=>(numP a).bind fun a=>(numP f).bind fun f=>(numP n).map fun n=>⟨a,f,n⟩
 |_=>none
def fileP (l:By):Option ByteArray:=match wdsN 1 l with
 |[_,a]=>some (bA a)
 |_=>none
def voP (l:By):Option (Int×ByteArray×Bool):=match wdsN 3 l with
 |[_,i,nm,f]=>(numP i).bind fun i=>(flagP f).map fun f=>(i,bA nm,f)
 |_=>none
def ctP (l:By):Option Ct:=match wdsN 4 l with
 |[_,a,v,f,n]=>(numP a).bind fun a=>(numP v).bind fun v=>(numP n).map fun n=>⟨⟨a,v,bA f⟩,n⟩
 |_=>none
def hdP (l:By):Option (Int×Int):=match wdsN 2 l with
 |[_,a,b]=>(numP a).bind fun a=>(numP b).map fun b=>(a,b)
 |_=>none
/-- Lines that begin with a word, as long as they do. -/
def manyP {α:Type} (wd:By) (f:By->Option α):List By->Option (List α×List By)
 |[]=>some ([],[])
 |l::r=>if ahP wd l then (f l).bind fun x=>(manyP wd f r).map fun q=>(x::q.1,q.2) else some ([],l::r)
def itemsP:Nat->List By->Option (List It×List By)
 |0,ls=>some ([],ls)
 |_+1,[]=>some ([],[])
 |k+1,l::r=>if ahP fileK l then (fileP l).bind fun nm=>(manyP partK ptP r).bind fun q=>(itemsP k q.2).map fun s=>(⟨nm,q.1⟩::s.1,s.2) else some ([],l::r)
def volsP:Nat->List By->Option (List Vo×List By)
 |0,ls=>some ([],ls)
 |_+1,[]=>some ([],[])
 |k+1,l::r=>if ahP volK l then (voP l).bind fun h=>(itemsP r.length r).bind fun q=>(volsP k q.2).map fun s=>(⟨h.1,h.2.1,h.2.2,q.1⟩::s.1,s.2) else some ([],l::r)
def poolP:List By->Option (Po×List By)
 |[]=>none
 |l::r=>if ahP poolK l then (hdP l).bind fun h=>(manyP exK exP r).bind fun a=>(volsP a.2.length a.2).bind fun b=>(manyP refK ctP b.2).bind fun c=>(manyP lateK ctP c.2).map fun d=>(⟨h.1,h.2,a.1,b.1,c.1,d.1⟩,d.2) else none
/-- The lines of a pool. -/
def exLn (e:Ex):By:=joW [exK,Lib.itoa e.a,e.d.data.toList]
def ptLn (p:Pt):By:=joW [partK,Lib.itoa p.a,Lib.itoa p.f,Lib.itoa p.n]
def itLn (x:It):List By:=joW [fileK,x.nm.data.toList]::x.ps.map ptLn
def flagL (b:Bool):By:=if b then [49] else [48]
def voLn (v:Vo):List By:=joW [volK,Lib.itoa v.id,v.nm.data.toList,flagL v.fx]::v.its.flatMap itLn
def ctLn (wd:By) (c:Ct):By:=joW [wd,Lib.itoa c.o.a,Lib.itoa c.o.v,c.o.f.data.toList,Lib.itoa c.n]
def poLn (p:Po):List By:=joW [poolK,Lib.itoa p.size,Lib.itoa p.next]::p.ex.map exLn++p.vs.flatMap voLn++p.rf.map (ctLn refK)++p.lt.map (ctLn lateK)
theorem dY_ {α:Type} {f:α->By} {g:α->By} (h:∀ x,g x=f x++[10]) (l:List α):catL (l.map f)=l.flatMap g:=by
 induction l with
 |nil=>rfl
 |cons x l ih=>rw [List.map_cons,bU_,ih,List.flatMap_cons,h]
theorem g7_ {α:Type} {f:α->List By} {g:α->By} (h:∀ x,g x=catL (f x)) (l:List α):catL (l.flatMap f)=l.flatMap g:=by
 induction l with
 |nil=>rfl
 |cons x l ih=>rw [List.flatMap_cons,dR_,ih,List.flatMap_cons,h]
theorem bg_ (n:Int):(decB n).data.toList=Lib.itoa n:=by simp [decB]
theorem om_ (e:Ex):lineL (exW e)=exLn e++[10]:=by
 unfold lineL exW exLn;rw [b5_];simp [bg_];rfl
theorem on_ (p:Pt):lineL (ptW p)=ptLn p++[10]:=by
 unfold lineL ptW ptLn;rw [b5_];simp [bg_];rfl
theorem iZ_ (w:ByteArray) (c:Ct):lineL (ctL w c)=ctLn w.data.toList c++[10]:=by
 unfold lineL ctL ctLn;rw [b5_];simp [bg_]
theorem nc_ (x:It):itW x=catL (itLn x):=by
 unfold itW itLn partsW
 rw [bU_,dY_ on_]
 unfold lineL;rw [b5_];rfl
theorem mh_ (b:Bool):(flagB b).data.toList=flagL b:=by cases b<;>rfl
theorem nd_ (v:Vo):volW v=catL (voLn v):=by
 unfold volW voLn itsW
 rw [bU_,g7_ nc_]
 unfold lineL voW;rw [b5_];simp [bg_,mh_];rfl
theorem cJ_ (p:Po):textW p=catL (poLn p):=by
 unfold textW poLn exsW volsW ctsW
 rw [dR_,dR_,dR_,bU_,dY_ om_,g7_ nd_,dY_ (f:=ctLn refK) (iZ_ refW),dY_ (f:=ctLn lateK) (iZ_ lateW)]
 unfold lineL hdW;rw [b5_];simp [bg_];rfl
end Go.Proofs.YtigldeccfpkdmaaGreatDoor
namespace Go.Proofs.YtigldeccfpkdmaaGreatDoor
open Go.Shelf Go.RowKit Go.Lib
set_option maxHeartbeats 20000000
set_option maxRecDepth 100000
def oo_:Go.Shelf.Ren:=⟨fun | 174=>134 | 247=>193 | 245=>194 | 287=>226 | 279=>227 | 280=>228 | 281=>229 | 282=>230 | 321=>253 | 322=>254 | 316=>255 | 171=>257 | 205=>256 | 243=>277 | 246=>190 | 283=>218 | 284=>219 | 285=>220 | 286=>221 | 129=>247 | 317=>246 | 318=>248 | 319=>249 | 320=>250 | 337=>275 | 338=>276 | n=>n,fun | 9=>9 | 3=>3 | 2=>2 | 75=>75 | 85=>189 | 4=>4 | 167=>281 | 5=>5 | 53=>274 | 175=>282 | 46=>172 | 168=>284 | 37=>173 | 0=>0 | 210=>308 | 21=>21 | 127=>247 | 145=>325 | 143=>323 | 171=>273 | 173=>277 | 212=>301 | 51=>98 | 20=>20 | 213=>302 | 232=>336 | 233=>337 | 80=>186 | n=>n,fun | 15=>3 | 16=>4 | 17=>2 | 18=>7 | 19=>8 | n=>n⟩
theorem piL:LaysC.n174 Tryz.prog oo_ where
 mixed:=by kernel_rfl
 f129:=Tryz.func247.trans (congrArg some (by kernel_rfl))
 f171:=Tryz.func257.trans (congrArg some (by kernel_rfl))
 f174:=Tryz.func134.trans (congrArg some (by kernel_rfl))
 f205:=Tryz.func256.trans (congrArg some (by kernel_rfl))
 f243:=Tryz.func277.trans (congrArg some (by kernel_rfl))
 f245:=Tryz.func194.trans (congrArg some (by kernel_rfl))
 f246:=Tryz.func190.trans (congrArg some (by kernel_rfl))
 f247:=Tryz.func193.trans (congrArg some (by kernel_rfl))
 f279:=Tryz.func227.trans (congrArg some (by kernel_rfl))
 f280:=Tryz.func228.trans (congrArg some (by kernel_rfl))
 f281:=Tryz.func229.trans (congrArg some (by kernel_rfl))
 f282:=Tryz.func230.trans (congrArg some (by kernel_rfl))
 f283:=Tryz.func218.trans (congrArg some (by kernel_rfl))
 f284:=Tryz.func219.trans (congrArg some (by kernel_rfl))
 f285:=Tryz.func220.trans (congrArg some (by kernel_rfl))
 f286:=Tryz.func221.trans (congrArg some (by kernel_rfl))
 f287:=Tryz.func226.trans (congrArg some (by kernel_rfl))
 f316:=Tryz.func255.trans (congrArg some (by kernel_rfl))
 f317:=Tryz.func246.trans (congrArg some (by kernel_rfl))
 f318:=Tryz.func248.trans (congrArg some (by kernel_rfl))
 f319:=Tryz.func249.trans (congrArg some (by kernel_rfl))
 f320:=Tryz.func250.trans (congrArg some (by kernel_rfl))
 f321:=Tryz.func253.trans (congrArg some (by kernel_rfl))
 f322:=Tryz.func254.trans (congrArg some (by kernel_rfl))
 f337:=Tryz.func275.trans (congrArg some (by kernel_rfl))
 f338:=Tryz.func276.trans (congrArg some (by kernel_rfl))
 t0:=Tryz.underlying0
 a0:=Tryz.isAgg0
 z0:=Tryz.sizeOf0
 v0:=Tryz.zeroValue0
 t2:=Tryz.underlying2
 a2:=Tryz.isAgg2
 z2:=Tryz.sizeOf2
 v2:=Tryz.zeroValue2
 t3:=Tryz.underlying3
 a3:=Tryz.isAgg3
 z3:=Tryz.sizeOf3
 v3:=Tryz.zeroValue3
 t4:=Tryz.underlying4
 a4:=Tryz.isAgg4
 z4:=Tryz.sizeOf4
 v4:=Tryz.zeroValue4
 t5:=Tryz.underlying5
 a5:=Tryz.isAgg5
 z5:=Tryz.sizeOf5
 v5:=Tryz.zeroValue5
 t9:=Tryz.underlying9
 a9:=Tryz.isAgg9
 z9:=Tryz.sizeOf9
 v9:=Tryz.zeroValue9
 t20:=Tryz.underlying20
 a20:=Tryz.isAgg20
 z20:=Tryz.sizeOf20
 v20:=Tryz.zeroValue20
 t21:=Tryz.underlying21
 a21:=Tryz.isAgg21
 z21:=Tryz.sizeOf21
 v21:=Tryz.zeroValue21
 t37:=Tryz.underlying173
 a37:=Tryz.isAgg173
 z37:=Tryz.sizeOf173
 v37:=Tryz.zeroValue173
 t46:=Tryz.underlying172
 a46:=Tryz.isAgg172
 z46:=Tryz.sizeOf172
 v46:=Tryz.zeroValue172
 t51:=Tryz.underlying98
 a51:=Tryz.isAgg98
 z51:=Tryz.sizeOf98
 v51:=Tryz.zeroValue98
 t53:=Tryz.underlying274
 a53:=Tryz.isAgg274
 z53:=Tryz.sizeOf274
 v53:=Tryz.zeroValue274
 t75:=Tryz.underlying75
 a75:=Tryz.isAgg75
 z75:=Tryz.sizeOf75
 v75:=Tryz.zeroValue75
 t85:=Tryz.underlying189
 a85:=Tryz.isAgg189
 z85:=Tryz.sizeOf189
 v85:=Tryz.zeroValue189
 t127:=Tryz.underlying247
 a127:=Tryz.isAgg247
 z127:=Tryz.sizeOf247
 v127:=Tryz.zeroValue247
 t143:=Tryz.underlying323
 a143:=Tryz.isAgg323
 z143:=Tryz.sizeOf323
 v143:=Tryz.zeroValue323
 t145:=Tryz.underlying325
 a145:=Tryz.isAgg325
 z145:=Tryz.sizeOf325
 v145:=Tryz.zeroValue325
 t167:=Tryz.underlying281
 a167:=Tryz.isAgg281
 z167:=Tryz.sizeOf281
 v167:=Tryz.zeroValue281
 t168:=Tryz.underlying284
 a168:=Tryz.isAgg284
 z168:=Tryz.sizeOf284
 v168:=Tryz.zeroValue284
 t171:=Tryz.underlying273
 a171:=Tryz.isAgg273
 z171:=Tryz.sizeOf273
 v171:=Tryz.zeroValue273
 t173:=Tryz.underlying277
 a173:=Tryz.isAgg277
 z173:=Tryz.sizeOf277
 v173:=Tryz.zeroValue277
 t175:=Tryz.underlying282
 a175:=Tryz.isAgg282
 z175:=Tryz.sizeOf282
 v175:=Tryz.zeroValue282
 t210:=Tryz.underlying308
 a210:=Tryz.isAgg308
 z210:=Tryz.sizeOf308
 v210:=Tryz.zeroValue308
 t212:=Tryz.underlying301
 a212:=Tryz.isAgg301
 z212:=Tryz.sizeOf301
 v212:=Tryz.zeroValue301
 t213:=Tryz.underlying302
 a213:=Tryz.isAgg302
 z213:=Tryz.sizeOf302
 t232:=Tryz.underlying336
 a232:=Tryz.isAgg336
 z232:=Tryz.sizeOf336
 v232:=Tryz.zeroValue336
 t233:=Tryz.underlying337
 a233:=Tryz.isAgg337
 z233:=Tryz.sizeOf337
 v233:=Tryz.zeroValue337
 g15:=by kernel_rfl
 g16:=by kernel_rfl
 g17:=by kernel_rfl
 g18:=by kernel_rfl
 g19:=by kernel_rfl
 t80:=Tryz.underlying186
 a80:=Tryz.isAgg186
 z80:=Tryz.sizeOf186
 v80:=Tryz.zeroValue186
 i0:=by kernel_rfl
 i2:=by kernel_rfl
 i3:=by kernel_rfl
 i4:=by kernel_rfl
 i5:=by kernel_rfl
 i9:=by kernel_rfl
 i20:=by kernel_rfl
 i21:=by kernel_rfl
 i37:=by kernel_rfl
 i46:=by kernel_rfl
 i51:=by kernel_rfl
 i53:=by kernel_rfl
 i75:=by kernel_rfl
 i80:=by kernel_rfl
 i85:=by kernel_rfl
 i127:=by kernel_rfl
 i143:=by kernel_rfl
 i145:=by kernel_rfl
 i167:=by kernel_rfl
 i168:=by kernel_rfl
 i171:=by kernel_rfl
 i173:=by kernel_rfl
 i175:=by kernel_rfl
 i210:=by kernel_rfl
 i212:=by kernel_rfl
 i232:=by kernel_rfl
 i233:=by kernel_rfl
 m15:=by kernel_rfl
 m16:=by kernel_rfl
 m17:=by kernel_rfl
 m18:=by kernel_rfl
 m19:=by kernel_rfl
 c0:=by kernel_rfl
 c2:=by kernel_rfl
 c3:=by kernel_rfl
 c4:=by kernel_rfl
 c5:=by kernel_rfl
 c9:=by kernel_rfl
 c20:=by kernel_rfl
 c21:=by kernel_rfl
 c37:=by kernel_rfl
 c46:=by kernel_rfl
 c51:=by kernel_rfl
 c53:=by kernel_rfl
 c75:=by kernel_rfl
 c80:=by kernel_rfl
 c85:=by kernel_rfl
 c127:=by kernel_rfl
 c143:=by kernel_rfl
 c145:=by kernel_rfl
 c167:=by kernel_rfl
 c168:=by kernel_rfl
 c171:=by kernel_rfl
 c173:=by kernel_rfl
 c175:=by kernel_rfl
 c210:=by kernel_rfl
 c212:=by kernel_rfl
 c213:=by kernel_rfl
 c232:=by kernel_rfl
 c233:=by kernel_rfl
def op_:Go.Shelf.Ren:=⟨fun | 101=>133 | 208=>192 | 206=>202 | n=>n,fun | 9=>9 | 4=>4 | 3=>3 | n=>n,fun | n=>n⟩
theorem tpL:Lays.n101 Tryz.prog op_ where
 mixed:=by kernel_rfl
 f101:=Tryz.func133.trans (congrArg some (by kernel_rfl))
 f206:=Tryz.func202.trans (congrArg some (by kernel_rfl))
 f208:=Tryz.func192.trans (congrArg some (by kernel_rfl))
 t3:=Tryz.underlying3
 a3:=Tryz.isAgg3
 z3:=Tryz.sizeOf3
 v3:=Tryz.zeroValue3
 t4:=Tryz.underlying4
 a4:=Tryz.isAgg4
 z4:=Tryz.sizeOf4
 v4:=Tryz.zeroValue4
 t9:=Tryz.underlying9
 a9:=Tryz.isAgg9
 z9:=Tryz.sizeOf9
 v9:=Tryz.zeroValue9
end Go.Proofs.YtigldeccfpkdmaaGreatDoor
namespace Go.Proofs.YtigldeccfpkdmaaGreatDoor
open Go Go.RowKit Go.BigFrame
set_option maxHeartbeats 20000000
set_option maxRecDepth 100000
/-- What the variables hold that reading a text reads. -/
structure Glb (w:World):Prop where
 tab:TabP w
 syn:∃ tp p,w.cell? ⟨3,0,none⟩=some (.iface tp p)
 err:∃ tp p,w.cell? ⟨0,0,none⟩=some (.iface tp p)
 mx:∃ m,w.cell? ⟨1,0,none⟩=some (.int .i64 m)
 sz:9<=w.heap.size
theorem fL_ {w w':World} {B g:Nat} {v:Value} (h:w.cell? ⟨g,0,none⟩=some v) (hb:Below B w w') (hg:g<B):w'.cell? ⟨g,0,none⟩=some v:=by
 unfold World.cell? at h ⊢
 simp only at h ⊢
 rw [hb.block g hg]
 exact h
theorem Glb.low {w w':World} {B:Nat} (h:Glb w) (hb:Below B w w') (hg:9<=B):Glb w':=by
 obtain ⟨t1,p1,h1⟩:=h.syn
 obtain ⟨t2,p2,h2⟩:=h.err
 obtain ⟨m,h3⟩:=h.mx
 exact ⟨aK_ h.tab hb hg,⟨t1,p1,fL_ h1 hb (by omega)⟩,⟨t2,p2,fL_ h2 hb (by omega)⟩,⟨m,fL_ h3 hb (by omega)⟩,Nat.le_trans h.sz hb.size⟩
theorem Glb.below {w w':World} (h:Glb w) (hb:Below w.heap.size w w'):Glb w':=h.low hb h.sz
theorem mi_ {w w':World} {B b:Nat} (hg:w.grownBy w' (some b)) (h1:B<=b) (h2:B<=w.heap.size):Below B w w':=(Below.refl B w).grown hg h2 (fun k e=>by cases e;exact h1)
theorem Glb.grown {w w':World} {b:Nat} (h:Glb w) (hg:w.grownBy w' (some b)) (hb:9<=b):Glb w':=h.low (mi_ hg hb h.sz) (Nat.le_refl _)
theorem lc_ (s:By):(trimN s).length<=s.length:=by
 unfold trimN Lib.trimPrefix
 split<;>simp
/-- A panic that the program itself raises. -/
def Pan (e:Ending):Prop:=∃ tp p,e=.panicked [{v:=.iface tp p,recovered:=false}]
theorem i0_ (s:ByteArray) (w:World) (hs:s.size<=100000) (hG:Glb w) :
  Calls Tryz.prog 67 #[.string s] w fun e w'=>e=.returned (intV (numP s.data.toList))∧Below w.heap.size w w':=by
 obtain ⟨t,ht⟩:∃ t:ByteArray,Hid ((⟨(trimN s.data.toList).toArray⟩:ByteArray)=t):=⟨_,rfl⟩
 have htl:t.size=(trimN s.data.toList).length:=by rw [<-ht.out,Lib.size_eq]
 have hts:t.size<=100000:=by
  have h1:=lc_ s.data.toList
  have h2:=Lib.size_eq s
  omega
 obtain ⟨V,hV⟩:∃ V,Hid (intV (numP s.data.toList)=V):=⟨_,rfl⟩
 rw [hV.out]
 have q1:Calls Tryz.prog 133 #[.string s,.string ⟨#[45]⟩] w fun e w'=>e=.returned (.string t)∧w'=w:=by
  rw [<-ht.out]
  exact Any.strings_TrimPrefix tpL s ⟨#[45]⟩ w
 go_enter Tryz.func67,Tryz.ntmps67
 go_wp2_with fail
 refine q1.mono ?_
 rintro e w1 ⟨rfl,hw1⟩
 obtain rfl:w=w1:=hw1.symm
 clear q1
 rcases Nat.lt_or_ge 10 t.size with h10 | h10
 ·have hv:V=.tuple #[.int .i64 0,.bool false]:=by rw [<-hV.out,g2_ (by omega)];rfl
  subst hv
  go_wp2
  go_returns
  exact ⟨rfl,Below.refl _ _⟩
 ·have hsh:=eQ_ (s:=s.data.toList) (by omega)
  cases ha:Lib.atoi s.data.toList with
  |none=>
   have hv:V=.tuple #[.int .i64 0,.bool false]:=by rw [<-hV.out,iI_ ha];rfl
   subst hv
   rw [ha] at hsh
   obtain ⟨tp,p,hy⟩:=hG.syn
   go_wp2_with fail
   refine (Any.strconv_ParseInt_10_at64_syntax piL s (by omega) hsh (.iface tp p) w hy (.inr ⟨tp,p,rfl⟩)).mono ?_
   rintro e w1 ⟨N,rfl,_,_,hB⟩
   go_wp2
   go_returns
   exact ⟨rfl,hB⟩
  |some n=>
   rw [ha] at hsh
   have hb:=Lib.parseIntB_bounds hsh
   rw [show (2 ^ (64-1):Nat)=9223372036854775808 by decide] at hb
   have q2:=fun (u:World) (hu:Below w.heap.size w u)=>ak_ n u (by omega) (by omega) (hG.below hu).tab
   clear hb
   go_wp2_with fail
   refine (Any.strconv_ParseInt_10_at64_ok piL s (by omega) n hsh w).mono ?_
   rintro e w1 ⟨rfl,hw1⟩
   have hB:Below w.heap.size w w1:=by
    rcases hw1 with rfl | ⟨t,rfl⟩
    ·exact Below.refl _ _
    ·exact Lib.bytesWorld_below _ _ _
   clear hw1
   go_wp2_with fail
   refine (q2 w1 hB).mono ?_
   rintro e w2 ⟨rfl,hB2⟩
   replace hB2:=chain hB hB2
   by_cases hd:Lib.itoa n=s.data.toList
   ·have hv:V=.tuple #[.int .i64 n,.bool true]:=by rw [<-hV.out,g3_ (by omega) hd];rfl
    subst hv
    have he:(decB n).toList=s.toList:=by rw [ByteArray.toList_eq,ByteArray.toList_eq,bg_,hd]
    go_wp2
    go_returns
    exact ⟨rfl,hB2⟩
   ·have hv:V=.tuple #[.int .i64 0,.bool false]:=by rw [<-hV.out,fy_ ha hd];rfl
    subst hv
    have he:((decB n).toList==s.toList)=false:=by rw [beq_eq_false_iff_ne,ByteArray.toList_eq,ByteArray.toList_eq,bg_];exact hd
    go_wp2
    go_returns
    exact ⟨rfl,hB2⟩
theorem ai_ (s:ByteArray) (w:World) (hs:s.size<=100000) (hG:Glb w) :
  Calls Tryz.prog 95 #[.string s] w fun e w'=>(match numP s.data.toList with
   |none=>Pan e
   |some n=>e=.returned (.int .i64 n))∧Below w.heap.size w w':=by
 have q1:=i0_ s w hs hG
 cases hn:numP s.data.toList with
 |none=>
  rw [hn] at q1
  go_enter Tryz.func95,Tryz.ntmps95
  go_wp2_with fail
  refine q1.mono ?_
  rintro e w1 ⟨rfl,hB⟩
  obtain ⟨tp,p,hy⟩:=(hG.below hB).err
  unfold intV
  go_wp2
  exact ⟨rfl,⟨tp,p,rfl⟩,hB⟩
 |some n=>
  rw [hn] at q1
  go_enter Tryz.func95,Tryz.ntmps95
  go_wp2_with fail
  refine q1.mono ?_
  rintro e w1 ⟨rfl,hB⟩
  unfold intV
  go_wp2
  go_returns
  exact ⟨rfl,hB⟩
theorem cm_ (s:ByteArray) (w:World) (hG:Glb w) :
  Calls Tryz.prog 162 #[.string s] w fun e w'=>(match flagP s.data.toList with
   |none=>Pan e
   |some b=>e=.returned (.bool b))∧w'=w:=by
 obtain ⟨tp,p,hy⟩:=hG.err
 by_cases h0:s.data.toList=[48]
 ·have hf:flagP s.data.toList=some false:=by rw [flagP,if_pos h0]
  rw [hf]
  have e0:s.toList=[48]:=by rw [ByteArray.toList_eq,h0]
  clear hf h0
  go_enter Tryz.func162,Tryz.ntmps162
  go_wp2
  go_returns
  exact ⟨rfl,rfl⟩
 ·by_cases h1:s.data.toList=[49]
  ·have hf:flagP s.data.toList=some true:=by rw [flagP,if_neg h0,if_pos h1]
   rw [hf]
   have e0:s.toList=[49]:=by rw [ByteArray.toList_eq,h1]
   clear hf h0 h1
   go_enter Tryz.func162,Tryz.ntmps162
   go_wp2
   go_returns
   exact ⟨rfl,rfl⟩
  ·have hf:flagP s.data.toList=none:=by rw [flagP,if_neg h0,if_neg h1]
   rw [hf]
   have e0:(s.toList==[48])=false:=by rw [beq_eq_false_iff_ne,ByteArray.toList_eq];exact h0
   have e1:(s.toList==[49])=false:=by rw [beq_eq_false_iff_ne,ByteArray.toList_eq];exact h1
   clear hf h0 h1
   go_enter Tryz.func162,Tryz.ntmps162
   go_wp2
   exact ⟨rfl,⟨tp,p,rfl⟩,rfl⟩
end Go.Proofs.YtigldeccfpkdmaaGreatDoor
namespace Go.Proofs.YtigldeccfpkdmaaGreatDoor
open Go
set_option maxHeartbeats 20000000
set_option maxRecDepth 100000
theorem ct_ (c:UInt8):∀ l:By,Lib.index l [c]=match cutB c l with
  |none=>-1
  |some q=>(q.1.length:Int)
 |[]=>rfl
 |x::l=>by
  rw [Lib.index,cutB,ct_ c l]
  by_cases h:x=c
  ·subst h;simp
  ·have h2:¬ c=x:=fun e=>h e.symm
   rw [if_neg (by simp [h2]),if_neg h]
   cases hc:cutB c l with
   |none=>simp
   |some q=>
    simp only [Option.map_some,List.length_cons]
    rw [if_neg (by first | (simp;done) | (simp;omega))]
    simp
/-- Cut at the first k bytes c. -/
def splC (c:UInt8):Nat->By->List By
 |0,l=>[l]
 |k+1,l=>match cutB c l with
  |none=>[l]
  |some q=>q.1::splC c k q.2
theorem i1_:∀ (k:Nat) (l:By),splC 32 k l=wdsN k l
 |0,l=>rfl
 |k+1,l=>by
  rw [splC,wdsN]
  cases cutB 32 l with
  |none=>rfl
  |some q=>simp only;rw [i1_ k q.2]
theorem cK_ (c:UInt8):∀ (k:Nat) (l:By),Lib.splitK [c] 0 k l=splC c k l
 |0,l=>rfl
 |k+1,l=>by
  rw [Lib.splitK,splC,ct_ c l]
  cases hc:cutB c l with
  |none=>simp
  |some q=>
   obtain ⟨h1,_⟩:=ay_ (a:=q.1) (b:=q.2) hc
   simp only
   rw [if_neg (by first | (simp;done) | (simp;omega)),cK_ c k]
   have e1:l.take ((q.1.length:Int).toNat+0)=q.1:=by rw [h1];simp
   have e2:l.drop ((q.1.length:Int).toNat+[c].length)=q.2:=by
    rw [h1]
    have:(q.1.length:Int).toNat+[c].length=(q.1++[c]).length:=by simp
    rw [this,show q.1++c::q.2=(q.1++[c])++q.2 by simp,List.drop_left]
   rw [e1,e2]
theorem cu_ {c:UInt8} {l:By} {q:By×By} (h:cutB c l=some q):q.2.length<l.length:=by
 obtain ⟨h1,_⟩:=ay_ (a:=q.1) (b:=q.2) h
 rw [h1];simp;omega
theorem g8_ (c:UInt8):∀ (n k k':Nat) (l:By),l.length<=n->l.length<=k->l.length<=k'->splC c k l=splC c k' l
 |0,k,k',l,h,_,_=>by
  obtain rfl:=List.eq_nil_of_length_eq_zero (Nat.le_zero.1 h)
  cases k<;>cases k'<;>rfl
 |n+1,k,k',l,h,h1,h2=>by
  cases hc:cutB c l with
  |none=>
   have:∀ k,splC c k l=[l]:=fun k=>by
    cases k with
    |zero=>rfl
    |succ k=>rw [splC,hc]
   rw [this,this]
  |some q=>
   have:=cu_ hc
   obtain ⟨k,rfl⟩:∃ j,k=j+1:=⟨k-1,by omega⟩
   obtain ⟨k',rfl⟩:∃ j,k'=j+1:=⟨k'-1,by omega⟩
   rw [splC,splC,hc]
   simp only
   rw [g8_ c n k k' q.2 (by omega) (by omega) (by omega)]
theorem g9_ (c:UInt8):∀ (n:Nat) (l:By),l.length<=n->Lib.splitK [c] 0 (Lib.count l [c]) l=splC c n l
 |0,l,h=>by
  obtain rfl:=List.eq_nil_of_length_eq_zero (Nat.le_zero.1 h)
  rfl
 |n+1,l,h=>by
  rw [splC]
  cases hc:cutB c l with
  |none=>rw [Lib.count_miss (by rw [ct_,hc])];rfl
  |some q=>
   have hi:=ct_ c l
   rw [hc] at hi
   obtain ⟨h1,_⟩:=ay_ (a:=q.1) (b:=q.2) hc
   have e2:l.drop (q.1.length+[c].length)=q.2:=by
    rw [h1]
    have:q.1.length+[c].length=(q.1++[c]).length:=by simp
    rw [this,show q.1++c::q.2=(q.1++[c])++q.2 by simp,List.drop_left]
   rw [Lib.count_hit (by simp) hi,e2,Nat.add_comm,cK_,splC,hc]
   simp only
   rw [<-cK_,g9_ c n q.2 (by have:=cu_ hc;omega)]
theorem ha_:∀ (k:Nat) (l:By),l.length<=k->(∀ ls,lnsB k l=some ls->splC 10 k l=ls++[[]])∧(lnsB k l=none->∃ a x,splC 10 k l=a++[x]∧x≠[])
 |0,l,h=>by
  obtain rfl:=List.eq_nil_of_length_eq_zero (Nat.le_zero.1 h)
  exact ⟨fun ls h=>by obtain rfl:=Option.some.inj h;rfl,fun h=>by cases h⟩
 |k+1,l,h=>by
  by_cases hl:l=[]
  ·subst hl
   exact ⟨fun ls h=>by obtain rfl:=Option.some.inj h;rfl,fun h=>by cases h⟩
  ·rw [lnsB,if_neg hl,splC]
   cases hc:cutB 10 l with
   |none=>exact ⟨fun ls h=>(by cases h),fun _=>⟨[],l,rfl,hl⟩⟩
   |some q=>
    have:=cu_ hc
    obtain ⟨h1,h2⟩:=ha_ k q.2 (by omega)
    simp only
    cases hr:lnsB k q.2 with
    |none=>
     obtain ⟨a,x,e,hx⟩:=h2 hr
     exact ⟨fun ls h=>(by cases h),fun _=>⟨q.1::a,x,by rw [e];rfl,hx⟩⟩
    |some r=>
     exact ⟨fun ls h=>by obtain rfl:=Option.some.inj h;rw [h1 r hr];rfl,fun h=>by cases h⟩
theorem ne_ {l:List ByteArray} {m:List By} (h:l.map (·.data.toList)=m):l=m.map bA:=by
 subst h
 rw [List.map_map]
 have:(bA ∘ fun x:ByteArray=>x.data.toList)=id:=by funext x;exact bB_ x
 rw [this,List.map_id]
theorem hT_ (s:ByteArray) (k:Nat):Lib.splitB ⟨#[32]⟩ 0 (min k s.size) s=(wdsN k s.data.toList).map bA:=by
 refine ne_ ?_
 rw [Lib.splitB_data]
 show Lib.splitK [32] 0 _ _=_
 rw [cK_,<-i1_]
 have hs:s.size=s.data.toList.length:=by first | (simp;done) | (simp;rfl)
 by_cases hk:k<=s.size
 ·rw [Nat.min_eq_left hk]
 ·rw [Nat.min_eq_right (by omega)]
  exact g8_ 32 _ _ _ _ (Nat.le_refl _) (by omega) (by omega)
theorem hU_ (s:ByteArray):Lib.splitB ⟨#[10]⟩ 0 (Lib.countB s ⟨#[10]⟩) s=(splC 10 s.data.toList.length s.data.toList).map bA:=by
 refine ne_ ?_
 rw [Lib.splitB_data]
 exact g9_ 10 _ _ (Nat.le_refl _)
end Go.Proofs.YtigldeccfpkdmaaGreatDoor
namespace Go.Proofs.YtigldeccfpkdmaaGreatDoor
open Go Go.RowKit Go.BigFrame
set_option maxHeartbeats 20000000
set_option maxRecDepth 100000
abbrev tcs:ByteArray->List Value:=fun x=>[Value.string x]
theorem ld_ (x:ByteArray):[Value.string x].length=1:=rfl
theorem le_:∀ (l:List ByteArray),∀ u∈l.flatMap tcs,u.oneCell'=true:=by
 intro l u hu
 obtain ⟨x,_,hx⟩:=List.mem_flatMap.1 hu
 simp at hx
 subst hx;rfl
theorem lf_ (w:World) (x:ByteArray) (t:TypeId) (b:Nat) (hb:b=w.heap.size):SlAt tcs 1 (w.alloc (.cells #[.string x] t)) (some ⟨b,0,none⟩) 1 [x]:=by
 subst hb
 refine ⟨rfl,fun i y hy=>⟨w.heap.size,0,rfl,fun j v hv=>?_⟩⟩
 obtain rfl:i=0:=by have:=(List.getElem?_eq_some_iff.1 hy).1;simp at this;exact this
 simp at hy
 subst hy
 obtain rfl:j=0:=by have:=(List.getElem?_eq_some_iff.1 hv).1;simp at this;exact this
 simp at hv
 subst hv
 simp
theorem infoT:(Tryz.prog.info? 9).map (fun i=>(i.zero,i.size,i.bytes))=some (some (.string .empty),1,16):=by kernel_rfl
theorem es_ {w:World} {a:Option Addr} {n:Nat} {l:List ByteArray} (h:SlAt tcs 1 w a n l) {k:Nat} (hk:k<n):∃ b o s,a=some ⟨b,o,none⟩∧l[k]?=some s∧w.cell? ⟨b,o+k,none⟩=some (.string s):=by
 have hl:k<l.length:=by rw [h.len];exact hk
 have hx:l[k]?=some l[k]:=by simp [hl]
 obtain ⟨b,o,ha,hc⟩:=h.cell k _ hx
 exact ⟨b,o,l[k],ha,hx,by have:=hc 0 _ rfl;simpa using this⟩
theorem hb_:∀ (n k k':Nat) (l:By),l.length<=n->l.length<=k->l.length<=k'->wdsN k l=wdsN k' l
 |0,k,k',l,h,_,_=>by
  obtain rfl:=List.eq_nil_of_length_eq_zero (Nat.le_zero.1 h)
  cases k<;>cases k'<;>rfl
 |n+1,k,k',l,h,h1,h2=>by
  cases hc:cutB 32 l with
  |none=>
   have:∀ k,wdsN k l=[l]:=fun k=>by
    cases k with
    |zero=>rfl
    |succ k=>rw [wdsN,hc]
   rw [this,this]
  |some q=>
   have hq:q.2.length<l.length:=by
    obtain ⟨h1,_⟩:=ay_ (a:=q.1) (b:=q.2) hc
    rw [h1];simp;omega
   obtain ⟨k,rfl⟩:∃ j,k=j+1:=⟨k-1,by omega⟩
   obtain ⟨k',rfl⟩:∃ j,k'=j+1:=⟨k'-1,by omega⟩
   rw [wdsN,wdsN,hc]
   simp only
   rw [hb_ n k k' q.2 (by omega) (by omega) (by omega)]
theorem mj_ {l:By} (h:cutB 32 l=none):wdsA l=[l]:=by
 unfold wdsA
 cases l.length with
 |zero=>rfl
 |succ k=>rw [wdsN,h]
theorem mk_ {l:By} {q:By×By} (h:cutB 32 l=some q):wdsA l=q.1::wdsA q.2∧q.2.length<l.length:=by
 have hq:q.2.length<l.length:=by
  obtain ⟨h1,_⟩:=ay_ (a:=q.1) (b:=q.2) h
  rw [h1];simp;omega
 refine ⟨?_,hq⟩
 unfold wdsA
 obtain ⟨k,hk⟩:∃ j,l.length=j+1:=⟨l.length-1,by omega⟩
 rw [hk,wdsN,h]
 simp only
 rw [hb_ _ k q.2.length q.2 (Nat.le_refl _) (by omega) (Nat.le_refl _)]
theorem bS_ (s:ByteArray) (w:World) (hs:s.size<=100000) :
  Calls Tryz.prog 89 #[.string s] w fun e w'=>(∃ a n cap,e=.returned (.slice a n cap)∧n<=100001∧ResAt tcs 1 9 w' w.heap.size a n cap ((wdsA s.data.toList).map bA))∧Below w.heap.size w w':=by
 obtain ⟨i0,hi0,hz0,hz1,hz2⟩:=info_parts infoT
 obtain ⟨R,hR⟩:∃ R,Hid ((wdsA s.data.toList).map bA=R):=⟨_,rfl⟩
 rw [hR.out]
 go_enter Tryz.func89,Tryz.ntmps89
 go_wp2_with fail
 go_loopw [0,3,4] (fun sv out mv wr=>∃ (rest:ByteArray) (m:Bool) (acc:List ByteArray) (a:Option Addr) (n cap:Nat),sv=.string rest∧out=.slice a n cap∧mv=.bool m∧n+rest.size<=(if m=true then 100000 else 100001)∧ResAt tcs 1 9 wr w.heap.size a n cap acc∧Hid (R=acc++(if m=true then (wdsA rest.data.toList).map bA else []))∧Below w.heap.size w wr) (fun sv _ mv _=>match sv,mv with | .string r,.bool true=>r.size+1 | _,_=>0)
 case atStart=>exact ⟨s,true,[],_,0,0,rfl,rfl,rfl,by simpa using hs,a1_ (Blk.new w #[] 9) (Nat.le_refl _),by show _=_;rw [<-hR.out];rfl,by go_grown⟩
 case round=>
  obtain ⟨rest,m,acc,a,n,cap,rfl,rfl,rfl,hsz,hA,hI,hB⟩:=hrel
  cases m with
  |false=>
   have hfin:R=acc:=by rw [hI.out];simp
   subst hfin
   simp only [Bool.false_eq_true,if_false] at hsz
   go_wp2
   go_returns
   exact ⟨⟨a,n,cap,rfl,by omega,hA⟩,hB⟩
  |true=>
   simp only [if_true] at hsz hI
   have hws:=hB.size
   go_wp2_with fail
   refine (b0_ 32 rest _ (by omega)).mono ?_
   rintro e w1 ⟨rfl,hB1⟩
   have hA1:=hA.below hB1
   replace hB1:=chain hB hB1
   have hw1:=hB1.size
   cases hc:cutB 32 rest.data.toList with
   |none=>
    have hv:cutV 32 rest=.tuple #[.string rest,.string ⟨#[]⟩,.bool false]:=by unfold cutV;rw [hc]
    have hI2:Hid (R=(acc++[rest])++(if false=true then (wdsA (⟨#[]⟩:ByteArray).data.toList).map bA else [])):=by
     show _=_
     rw [hI.out,mj_ hc]
     simp [bB_]
    rw [hv]
    clear hv hc hI hA hB
    go_wp2_with (at_builtin;refine al_ rfl (fun K hK=>be_ _ _ 79 rfl w.heap.size 9 i0 (.string .empty) 16 Tryz.underlying79 hi0 hz0 hz1 hz2 rfl (by decide) ld_ le_ a n cap _ rfl (hA1.alloc _) _ 1 1 [rest] rfl (lf_ _ _ _ _ (by first | rfl | simp)) (fun ad h=>(by cases h;rfl)) (fun h=>(by cases h)) (n+1) rfl (by unfold maxLen;omega) (by omega) (by simp;omega) (fun a4 cap4 w4 R4 hg4=>hK _ _ ?_)))
    have hB4:Below w.heap.size w w4:=Below.grown (by go_grown) hg4 (by simp;omega) (aI_ fun ad had=>by have:=(hA1.block ad had).1;omega)
    go_roundw
    case rel=>exact ⟨⟨#[]⟩,false,acc++[rest],a4,n+1,cap4,rfl,rfl,rfl,by show n+1+0<=_;simp;omega,R4,hI2,hB4⟩
    case measure=>simp
   |some q=>
    have hv:cutV 32 rest=.tuple #[.string (bA q.1),.string (bA q.2),.bool true]:=by unfold cutV;rw [hc]
    obtain ⟨hq1,hq2⟩:=mk_ hc
    have hI2:Hid (R=(acc++[bA q.1])++(if true=true then (wdsA (bA q.2).data.toList).map bA else [])):=by
     show _=_
     rw [hI.out,hq1]
     simp [af_]
    have hqs:(bA q.2).size+1<=rest.size:=by
     rw [Lib.size_eq,Lib.size_eq,af_]
     omega
    rw [hv]
    clear hv hc hI hA hB hq1 hq2
    generalize bA q.1=one at *
    generalize bA q.2=more at *
    go_wp2_with (at_builtin;refine al_ rfl (fun K hK=>be_ _ _ 79 rfl w.heap.size 9 i0 (.string .empty) 16 Tryz.underlying79 hi0 hz0 hz1 hz2 rfl (by decide) ld_ le_ a n cap _ rfl (hA1.alloc _) _ 1 1 [one] rfl (lf_ _ _ _ _ (by first | rfl | simp)) (fun ad h=>(by cases h;rfl)) (fun h=>(by cases h)) (n+1) rfl (by unfold maxLen;omega) (by omega) (by simp;omega) (fun a4 cap4 w4 R4 hg4=>hK _ _ ?_)))
    have hB4:Below w.heap.size w w4:=Below.grown (by go_grown) hg4 (by simp;omega) (aI_ fun ad had=>by have:=(hA1.block ad had).1;omega)
    go_roundw
    case rel=>exact ⟨more,true,acc++[one],a4,n+1,cap4,rfl,rfl,rfl,by simp;omega,R4,hI2,hB4⟩
    case measure=>simp;omega
def idxN (w:List ByteArray) (i:Nat):Int:=match w[i]? with
 |none=>-1
 |some x=>(numP x.data.toList).getD (-1)
def idxW (w:List ByteArray) (i:Nat):ByteArray:=w[i]?.getD ⟨#[]⟩
theorem aJ_ (a:Option Addr) (n cap:Nat) (l:List ByteArray) (i:Nat) (w:World) (h:SlAt tcs 1 w a n l) (hl:∀ x∈l,x.size<=100000) :
  Calls Tryz.prog 90 #[.slice a n cap,.int .i64 i] w fun e w'=>e=.returned (.int .i64 (idxN l i))∧w'=w:=by
 obtain ⟨R,hR⟩:∃ R,Hid (idxN l i=R):=⟨_,rfl⟩
 rw [hR.out]
 go_enter Tryz.func90,Tryz.ntmps90
 by_cases hlt:i<n
 ·obtain ⟨b,o,x,rfl,hx,c0⟩:=es_ h hlt
  have hlt':(i:Int)<n:=by omega
  have hxs:=hl x (List.mem_of_getElem? hx)
  have hf:Hid (R=(numP x.data.toList).getD (-1)):=by show _=_;rw [<-hR.out,idxN,hx]
  clear h hl hx
  go_wp2_with fail
  refine (br_ x _ (by omega)).mono ?_
  rintro e w1 ⟨rfl,rfl⟩
  cases hc:numP x.data.toList with
  |none=>
   have hf2:R=-1:=by rw [hf.out,hc];rfl
   rw [show intV none=.tuple #[.int .i64 0,.bool false] from rfl]
   go_wp2
   go_returns
   exact ⟨by rw [hf2];rfl,rfl⟩
  |some m=>
   have hf2:R=m:=by rw [hf.out,hc];rfl
   rw [show intV (some m)=.tuple #[.int .i64 m,.bool true] from rfl]
   go_wp2
   go_returns
   exact ⟨by rw [hf2];rfl,rfl⟩
 ·have hlt':¬ (i:Int)<n:=by omega
  have hf2:R=-1:=by rw [<-hR.out,idxN,List.getElem?_eq_none (by rw [h.len];omega)]
  go_wp2
  go_returns
  exact ⟨rfl,rfl⟩
theorem aY_ (a:Option Addr) (n cap:Nat) (l:List ByteArray) (i:Nat) (w:World) (h:SlAt tcs 1 w a n l) :
  Calls Tryz.prog 91 #[.slice a n cap,.int .i64 i] w fun e w'=>e=.returned (.string (idxW l i))∧w'=w:=by
 obtain ⟨R,hR⟩:∃ R,Hid (idxW l i=R):=⟨_,rfl⟩
 rw [hR.out]
 go_enter Tryz.func91,Tryz.ntmps91
 by_cases hlt:i<n
 ·obtain ⟨b,o,x,rfl,hx,c0⟩:=es_ h hlt
  have hlt':(i:Int)<n:=by omega
  have hf2:R=x:=by rw [<-hR.out,idxW,hx];rfl
  clear h hx
  go_wp2
  go_returns
  exact ⟨by rw [hf2];rfl,rfl⟩
 ·have hlt':¬ (i:Int)<n:=by omega
  have hf2:R=⟨#[]⟩:=by rw [<-hR.out,idxW,List.getElem?_eq_none (by rw [h.len];omega)];rfl
  go_wp2
  go_returns
  exact ⟨rfl,rfl⟩
theorem bW_ {l:By}:∀ {k:Nat},∀ w∈wdsN k l,w.length<=l.length:=by
 intro k
 induction k generalizing l with
 |zero=>intro w hw;simp [wdsN] at hw;subst hw;exact Nat.le_refl _
 |succ k ih=>
  intro w hw
  rw [wdsN] at hw
  split at hw
  ·simp at hw;subst hw;exact Nat.le_refl _
  ·next q hq=>
   obtain ⟨h1,_⟩:=ay_ (a:=q.1) (b:=q.2) hq
   rcases List.mem_cons.1 hw with rfl | hw
   ·rw [h1];simp
   ·have:=ih w hw
    rw [h1];simp;omega
end Go.Proofs.YtigldeccfpkdmaaGreatDoor
