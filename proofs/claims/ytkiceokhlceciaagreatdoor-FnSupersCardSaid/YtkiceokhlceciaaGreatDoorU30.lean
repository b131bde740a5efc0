/- Texts of pools, read and written; what is drawn. -/
import Derived.Lib.ItoaNum
import Derived.Lib.Atoi
import Derived.Lib.AtoiTie
import Derived.Lib.ParseIntBTie
import Derived.Lib.Strings
import Derived.Shelf.Strings.BuilderK
import Derived.Shelf.Strings.OnBuilder
import Derived.Lib.AppendIntMem
import Derived.Shelf.Strconv.Itoa4
import Derived.Shelf.Strconv.ErrVarParseInt
import Derived.Shelf.Strings.Prefix
import Derived.Lib.Split
import Derived.Shelf.Strings.SplitShaped
import Derived.Defers
import Derived.Recover
import Derived.Laws.Closers25b
import Derived.Laws.BitsLemmas
import Derived.Shelf.Strings.Cut
import Derived.Test.YtkiceokhlceciaaGreatDoorU11
import Derived.Test.YtkiceokhlceciaaGreatDoorU29
set_option maxHeartbeats 20000000
set_option maxRecDepth 100000
namespace Go.Proofs.YtkiceokhlceciaaGreatDoor
section
open Go Tryz
abbrev By:=List UInt8
end
section
open Go Go.RowKit Go.BigFrame Tryz
abbrev tcs:ByteArray->List Value:=fun x=>[Value.string x]
abbrev tRd:TypeId:=96
abbrev tO:TypeId:=66
abbrev tPo:TypeId:=28
end
section
open Go Tryz
def bA (l:By):ByteArray:=⟨l.toArray⟩
end
section
open Go Go.RowKit Go.BigFrame Go.Shelf Tryz
structure Wr (B b:Nat)(l:List UInt8)(w:World):Prop where
 h:Lib.IsBuilderF 74 5 B b (Lib.byteCells l) w
theorem Wr.lt {B b:Nat}{l:List UInt8}{w:World}(h:Wr B b l w):b<w.heap.size:=by
 obtain⟨⟨_,v,h2,_⟩ | ⟨_,v,h2,_⟩⟩:=h
 ·exact (ZG.1 h2).1
 ·exact (ZG.1 h2).1
end
section
open Go Go.RowKit Go.BigFrame Tryz
def IS (l:List By):List Value:=l.map fun x=>Value.string (bA x)
structure CK (w:World)(rb:Nat)(ls:List By):Prop where
 out:∃ lb o lc c,Blk w rb #[.slice (some ⟨lb,o,none⟩) ls.length lc] tRd∧Blk w lb c 9∧(c.toList.drop o).take ls.length=IS ls∧ls.length+1<=lc∧lc<=100001∧∀ l∈ls,l.length<=60000
theorem CK.lt {w:World}{rb:Nat}{ls:List By}(h:CK w rb ls):rb<w.heap.size:=by
 obtain⟨lb,o,lc,c,h1,_⟩:=h.out
 exact h1.lt
end
section
open Go Go.RowKit Go.BigFrame Go.Shelf Tryz
theorem IK {w w':World}{B e:Nat}{v:Value}{n:Nat}{xs:List Value}(h:w.ownsRowF B e 1 v n xs)(hb:Below w.heap.size w w'):w'.ownsRowF B e 1 v n xs:=by
 refine ⟨h.1,?_⟩
 rcases h.2 with h0 | ⟨g,cap,cur,fz,h1,h2,h3,r⟩
 ·exact .inl h0
 ·exact .inr ⟨g,cap,cur,fz,h1,h2,(hb.block g (ZG.1 h3).1).trans h3,r⟩
theorem HI {T e:TypeId}{B b:Nat}{p:Value}{bs:List Value}{w w':World}(h:Lib.BuilderAtF T e B b p bs w)(hb:Below w.heap.size w w'):Lib.BuilderAtF T e B b p bs w':=by
 obtain⟨h1,v,h2,h3,h4⟩:=h
 exact⟨h1,v,(hb.block b (ZG.1 h2).1).trans h2,IK h3 hb,h4⟩
theorem Wr.below {B b:Nat}{l:List UInt8}{w w':World}(h:Wr B b l w)(hb:Below w.heap.size w w'):Wr B b l w':=by
 obtain⟨h | h⟩:=h
 ·exact⟨.inl (HI h hb)⟩
 ·exact⟨.inr (HI h hb)⟩
end
section
open Go Go.RowKit Go.BigFrame Tryz
def ES (w:World):Prop:=Lib.TabIs prog w "internal/strconv.uint64pow10" .u64 Lib.pow10Tab
end
section
open Go Go.RowKit Go.BigFrame Go.Shelf Tryz
theorem Br {w w':World}{B:Nat}(h:ES w)(hb:Below B w w')(hg:9<=B):ES w':=by
 unfold ES Lib.TabIs World.var? at h ⊢
 have ha:prog.globalNamed "internal/strconv.uint64pow10"=some 2:=by kernel_rfl
 rw[ha] at h ⊢
 simp only[YO] at h ⊢
 rw[hb.block _ (by omega)]
 exact h
end
section
open Go Go.RowKit Go.BigFrame Tryz
structure Glb (w:World):Prop where
 tab:ES w
 syn:∃ tp p,w.cell? ⟨3,0,none⟩=some (.iface tp p)
 err:∃ tp p,w.cell? ⟨0,0,none⟩=some (.iface tp p)
 mx:∃ m,w.cell? ⟨1,0,none⟩=some (.int .i64 m)
 sz:9<=w.heap.size
theorem Gf {w w':World}{B g:Nat}{v:Value}(h:w.cell? ⟨g,0,none⟩=some v)(hb:Below B w w')(hg:g<B):w'.cell? ⟨g,0,none⟩=some v:=by
 unfold World.cell? at h ⊢
 simp only at h ⊢
 rw[hb.block g hg]
 exact h
theorem Glb.low {w w':World}{B:Nat}(h:Glb w)(hb:Below B w w')(hg:9<=B):Glb w':=by
 obtain⟨t1,p1,h1⟩:=h.syn
 obtain⟨t2,p2,h2⟩:=h.err
 obtain⟨m,h3⟩:=h.mx
 exact⟨Br h.tab hb hg,⟨t1,p1,Gf h1 hb (by omega)⟩,⟨t2,p2,Gf h2 hb (by omega)⟩,⟨m,Gf h3 hb (by omega)⟩,Zl h.sz hb.size⟩
theorem Glb.below {w w':World}(h:Glb w)(hb:Below w.heap.size w w'):Glb w':=h.low hb h.sz
theorem CK.below {w w':World}{rb:Nat}{ls:List By}(h:CK w rb ls)(hb:Below w.heap.size w w'):CK w' rb ls:=by
 obtain⟨lb,o,lc,c,h1,h2,r⟩:=h.out
 exact⟨lb,o,lc,c,h1.below hb,h2.below hb,r⟩
def AF (n:Int):ByteArray:=⟨(Lib.itoa n).toArray⟩
end
section
open Go Go.RowKit Go.BigFrame Go.Shelf Tryz
def CQ (ps:List ByteArray):List UInt8:=Lib.join (ps.map (·.data.toList)) [32]
def Ah (ps:List ByteArray):List UInt8:=CQ ps++[10]
def ctL (word:ByteArray)(c:Ct):List ByteArray:=[word,AF c.o.a,AF c.o.v,c.o.f,AF c.n]
def ptW (p:Pt):List ByteArray:=[⟨#[112,97,114,116]⟩,AF p.a,AF p.f,AF p.n]
def AT (l:List Pt):List UInt8:=l.flatMap (fun p=>Ah (ptW p))
def itW (x:It):List UInt8:=Ah [⟨#[102,105,108,101]⟩,x.nm]++AT x.ps
def BY (l:List It):List UInt8:=l.flatMap itW
def Gi (b:Bool):ByteArray:=if b then ⟨#[49]⟩ else ⟨#[48]⟩
def voW (v:Vo):List ByteArray:=[⟨#[118,111,108,117,109,101]⟩,AF v.id,v.nm,Gi v.fx]
def Dr (v:Vo):List UInt8:=Ah (voW v)++BY v.its
def hdW (p:Po):List ByteArray:=[⟨#[112,111,111,108]⟩,AF p.size,AF p.next]
def exW (e:Ex):List ByteArray:=[⟨#[101,120,116,101,110,116]⟩,AF e.a,e.d]
def DN (l:List Ex):List UInt8:=l.flatMap (fun e=>Ah (exW e))
def B2 (l:List Vo):List UInt8:=l.flatMap Dr
def BC (word:ByteArray)(l:List Ct):List UInt8:=l.flatMap (fun c=>Ah (ctL word c))
def DE:ByteArray:=⟨#[114,101,102]⟩
def B5:ByteArray:=⟨#[108,97,116,101]⟩
def AO (p:Po):List UInt8:=Ah (hdW p)++DN p.ex++B2 p.vs++BC DE p.rf++BC B5 p.lt
theorem B6 (a b:ByteArray)(l:List ByteArray):CQ (a::b::l)=a.data.toList++[32]++CQ (b::l):=by
 unfold CQ;simp[Lib.join]
theorem CJ (a:ByteArray):CQ [a]=a.data.toList:=by unfold CQ;simp[Lib.join]
end
section
open Go Go.RowKit Go.BigFrame Tryz
theorem JZ {w w':World}{B b:Nat}(hg:w.grownBy w' (some b))(h1:B<=b)(h2:B<=w.heap.size):Below B w w':=(Yg B w).grown hg h2 (fun k e=>by cases e;exact h1)
theorem Glb.grown {w w':World}{b:Nat}(h:Glb w)(hg:w.grownBy w' (some b))(hb:9<=b):Glb w':=h.low (JZ hg hb h.sz) (Zd _)
theorem AE.mono {B B':Nat}{w:World}{v:Value}{p:Po}(h:AE B w v p)(hb:B'<=B):AE B' w v p:=by
 obtain⟨ea,en,ec,va,vn,vc,ra,rn,rc,la,ln,lc,vr,e,h1,h2,h3,h4,h5,h6,h7,h8⟩:=h.out
 exact⟨ea,en,ec,va,vn,vc,ra,rn,rc,la,ln,lc,vr,e,h1.mono hb,h2.mono hb,h3.mono hb,h4.mono hb,h5,h6.imp fun _ _ _ h=>⟨h.id,h.nm,h.fx,h.rows.mono hb,h.its.imp fun _ _ _ h=>⟨h.nm,h.ps.mono hb⟩⟩,h7,h8⟩
def lnV:Option Value->Nat
 |some (.slice _ n _)=>n
 |_=>0
theorem CK.len {w:World}{rb:Nat}{ls:List By}(h:CK w rb ls):lnV (w.cell? ⟨rb,0,none⟩)=ls.length:=by
 obtain⟨lb,o,lc,c,h1,_⟩:=h.out
 have:=h1.cell 0
 simp at this
 rw[this]
 rfl
end
section
open Go Go.RowKit Go.BigFrame Go.Shelf Tryz
theorem FH {size:Int}:∀ {l:List Ex} {next:Int},xgo size next l=true->1<=next->∀ e∈l,1<=e.a∧e.a<=size+1∧e.d.size<=20
 |[],_,_,_=>by simp
 |e::r,next,h,h1=>by
  simp only[xgo,Aw,Zf,ZU] at h
  intro x hx
  rcases Zn.1 hx with rfl | hx
  ·omega
  ·exact FH h.2 (by omega) x hx
theorem FF {next:Int}{e:List Ex}:∀ {l:List Vo} {last:Int},vgo next e last l=true->0<=last->∀ v∈l,0<v.id∧v.id<next∧v.nm.size<=8∧v.its.length<=5∧igo e none v.its=true
 |[],_,_,_=>by simp
 |v::r,last,h,h1=>by
  simp only[vgo,itemsB,nameB,Zf,ZU] at h
  obtain⟨⟨⟨⟨a1,a2⟩,a3⟩,a4⟩,a5⟩:=h
  intro x hx
  rcases Zn.1 hx with rfl | hx
  ·exact⟨by omega,a2,a3.1.2,a4.1,a4.2⟩
  ·exact FF a5 (by omega) x hx
theorem Fu {e:List Ex}:∀ {l:List It} {q:Option It},igo e q l=true->∀ x∈l,x.nm.size<=8∧Ae x.ps=true
 |[],_,_=>by simp
 |y::r,q,h=>by
  simp only[igo,nameB,Zf,ZU] at h
  obtain⟨⟨⟨a1,_⟩,a3⟩,a4⟩:=h
  intro x hx
  rcases Zn.1 hx with rfl | hx
  ·refine ⟨a1.1.2,?_⟩
   unfold AP at a3
   split at a3
   ·rename_i h;exact h.1
   ·cases a3
  ·exact Fu a4 x hx
theorem GY {p:Po}(h:Ap p=true):AI p.rf=true∧AR p.lt=true:=by
 simp only[Ap,Zf] at h
 have h1:=h.1.2
 by_cases hh:AI p.rf=true∧AR p.lt=true
 ·exact hh
 ·unfold AB at h1
  rw[if_neg hh] at h1
  cases h1
end
section
open Go Go.RowKit Go.BigFrame Tryz
theorem CK.ty {w w':World}{rb:Nat}{ls:List By}{row:Option Nat}{t:TypeId}(h:CK w rb ls)(hg:w.grownBy w' row)(hr:BF w row t)(h1:tRd≠t)(h2:9≠t):CK w' rb ls:=by
 obtain⟨lb,o,lc,c,e1,e2,r⟩:=h.out
 exact⟨lb,o,lc,c,e1.ty hg hr h1,e2.ty hg hr h2,r⟩
end
section
open Go Go.RowKit Go.BigFrame Go.Shelf Tryz
theorem Blk.ok {w w':World}{k b:Nat}{c:Array Value}{t:TypeId}(h:Blk w k c t)(hk:Lib.OthersKept 5 (some b) w w')(hb:k≠b)(ht:t≠5):Blk w' k c t:=hk k _ h (by simpa using hb) (fun c' fz e=>by cases e;exact ht rfl)
end
section
open Go Go.RowKit Go.BigFrame Tryz
theorem EX:∀ (m k:Nat),k<10 ^ (m+1)->(Lib.decDigits k).length<=m+1
 |0,k,h=>by rw[Lib.decDigits,dif_pos (by simpa using h)];simp
 |m+1,k,h=>by
  rw[Lib.decDigits]
  split
  ·simp
  ·have:=EX m (k / 10) (by rw[Nat.pow_succ] at h;omega)
   simp
   omega
theorem Dw {n:Int}(h0:-1000000000000<n)(h1:n<1000000000000):(AF n).size<=13:=by
 show (Lib.itoa n).toArray.size<=13
 rw[YI]
 unfold Lib.itoa
 split
 ·have:=EX 11 n.natAbs (by omega)
  simp
  omega
 ·have:=EX 11 n.toNat (by omega)
  omega
end
section
open Go Go.RowKit Go.BigFrame Go.Shelf Tryz
def Num (n:Int):Prop:=-1000000000000<n∧n<1000000000000
def Kk (l:List Pt):Prop:=∀ p∈l,Num p.a∧Num p.f∧Num p.n
structure Hc (p:Po):Prop where
 size:Num p.size
 next:Num p.next
 ex:∀ e∈p.ex,Num e.a
 vs:∀ v∈p.vs,Num v.id∧(∀ x∈v.its,Kk x.ps)∧v.its.length<=4194304∧∀ x∈v.its,x.ps.length<=4194304
 rf:∀ c∈p.rf,Num c.o.a∧Num c.o.v∧Num c.n
 lt:∀ c∈p.lt,Num c.o.a∧Num c.o.v∧Num c.n
 len:(AO p).length<=1000000
end
end Go.Proofs.YtkiceokhlceciaaGreatDoor
