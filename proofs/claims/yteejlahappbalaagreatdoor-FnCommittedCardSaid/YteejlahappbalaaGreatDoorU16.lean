/- Texts of pools, read and written; what is drawn. -/
import Derived.Lib.ItoaNum
import Derived.Lib.Atoi
import Derived.Lib.AtoiTie
import Derived.Lib.ParseIntBTie
import Derived.Lib.Strings
import Derived.Shelf.Strings.BuilderK
import Derived.Shelf.Strings.OnBuilder
import Derived.OrdersHeld
import Derived.StillTail
import Derived.Lib.AppendIntMem
import Derived.Shelf.Strconv.Itoa4
import Derived.Shelf.Strconv.ErrVarParseInt
import Derived.Shelf.Strings.Prefix
import Derived.Lib.Split
import Derived.Shelf.Strings.SplitShaped
import Derived.Shelf.Small.Strs
import Derived.Laws.StructEq
import Derived.ArgAppend
import Derived.Defers
import Derived.Recover
import Derived.Laws.Closers25b
import Derived.Laws.BitsLemmas
import Derived.Shelf.Strings.Cut
import Derived.Deep.CutBlock
import Derived.Test.YteejlahappbalaaGreatDoorU08
import Derived.Test.YteejlahappbalaaGreatDoorU09
import Derived.Test.YteejlahappbalaaGreatDoorU15
set_option maxHeartbeats 20000000
set_option maxRecDepth 100000
namespace Go.Proofs.YteejlahappbalaaGreatDoor
section
open Go Tryz
abbrev By:=List UInt8
def bA (l:By):ByteArray:=⟨l.toArray⟩
end
section
open Go Go.RowKit Go.BigFrame Go.Shelf Tryz
structure Wr (B b:Nat)(l:List UInt8)(w:World):Prop where
 h:Lib.IsBuilderF 169 5 B b (Lib.byteCells l) w
theorem Wr.lt {B b:Nat}{l:List UInt8}{w:World}(h:Wr B b l w):b<w.heap.size:=by
 obtain⟨⟨_,v,h2,_⟩ | ⟨_,v,h2,_⟩⟩:=h
 ·exact (ZG.1 h2).1
 ·exact (ZG.1 h2).1
end
section
open Go Go.RowKit Go.BigFrame Tryz
abbrev tcs:ByteArray->List Value:=fun x=>[Value.string x]
abbrev tRd:TypeId:=106
def MW (l:List By):List Value:=l.map fun x=>Value.string (bA x)
structure Dw (w:World)(rb:Nat)(ls:List By):Prop where
 out:∃ lb o lc c,Blk w rb #[.slice (some ⟨lb,o,none⟩) ls.length lc] tRd∧Blk w lb c 9∧(c.toList.drop o).take ls.length=MW ls∧ls.length+1<=lc∧lc<=100001∧∀ l∈ls,l.length<=60000
theorem Dw.lt {w:World}{rb:Nat}{ls:List By}(h:Dw w rb ls):rb<w.heap.size:=by
 obtain⟨lb,o,lc,c,h1,_⟩:=h.out;exact h1.lt
end
section
open Go.RowKit Tryz
structure Fl where
 nm:ByteArray
 d:ByteArray
def Fl.cs (p:Fl):List Value:=[.string p.nm,.string p.d]
abbrev Dz (w:World)(a:Option Addr)(n:Nat)(l:List Fl):Prop:=AH Fl.cs 2 w a n l
structure Dp where
 k:Int
 nm:ByteArray
 tt:ByteArray
 d:ByteArray
def Dp.cs (p:Dp):List Value:=[.int .i64 p.k,.string p.nm,.string p.tt,.string p.d]
abbrev Pd (w:World)(a:Option Addr)(n:Nat)(l:List Dp):Prop:=AH Dp.cs 4 w a n l
def Gw (p:Dp):Prop:=p.nm.size<=9223372036854775807∧p.tt.size<=9223372036854775807∧p.d.size<=9223372036854775807
structure Dk where
 live:List Fl
 safe:List Fl
 ops:List Dp
end
section
open Go Go.RowKit Go.BigFrame Tryz
def If (l:List Fl):Prop:=∀ x∈l,x.nm.size<=9223372036854775807∧x.d.size<=100000000
structure Dg (d:Dk):Prop where
 live:d.live.length<=4000000∧If d.live
 safe:d.safe.length<=4000000∧If d.safe
 ops:d.ops.length<=4000000∧∀ o∈d.ops,Gw o∧o.d.size<=10000000
def A5 (B:Nat)(w:World)(v:Value)(d:Dk):Prop:=∃ la ln lc sa sn sc oa on oc,v=.agg #[.slice la ln lc,.slice sa sn sc,.slice oa on oc]∧Ac Fl.cs 2 39 w B la ln lc d.live∧Ac Fl.cs 2 39 w B sa sn sc d.safe∧Ac Dp.cs 4 89 w B oa on oc d.ops
abbrev tO:TypeId:=68
abbrev tPo:TypeId:=33
structure Sr where
 d:Dk
 p:Po
 m:Int
abbrev K6 (u:World)(b:Nat)(t:TypeId)(z0 z1 z2 z3 z4 z5:Value):Prop:=Blk u b #[z0,z1,z2,z3,z4,z5] t∧(u.cell? ⟨b,0,none⟩=some z0∧u.cell? ⟨b,1,none⟩=some z1∧u.cell? ⟨b,2,none⟩=some z2∧u.cell? ⟨b,3,none⟩=some z3∧u.cell? ⟨b,4,none⟩=some z4∧u.cell? ⟨b,5,none⟩=some z5)∧u.frozen? ⟨b,0,none⟩=false∧u.frozen? ⟨b,1,none⟩=false∧u.frozen? ⟨b,2,none⟩=false∧u.frozen? ⟨b,3,none⟩=false∧u.frozen? ⟨b,4,none⟩=false∧u.frozen? ⟨b,5,none⟩=false
abbrev opV (k:Int)(o:Opr):Array Value:=#[.int .i64 k,.string o.vol,.string o.file,.string o.to,.string o.into,.int .i64 o.at',.int .i64 o.fr,.int .i64 o.ln,.string o.data]
abbrev Fx (w u:World)(a b c d e f:Value)(k:Int)(o:Opr):Prop:=K6 u w.heap.size 33 a b c d e f∧(Blk u (w.heap.size+1) #[.int .i64 k,.string o.vol,.string o.file,.string o.to,.string o.into,.int .i64 o.at',.int .i64 o.fr,.int .i64 o.ln,.string o.data] 80∧u.cell? ⟨w.heap.size+1,0,none⟩=some (.int .i64 k)∧u.cell? ⟨w.heap.size+1,1,none⟩=some (.string o.vol)∧u.cell? ⟨w.heap.size+1,2,none⟩=some (.string o.file)∧u.cell? ⟨w.heap.size+1,3,none⟩=some (.string o.to)∧u.cell? ⟨w.heap.size+1,4,none⟩=some (.string o.into)∧u.cell? ⟨w.heap.size+1,5,none⟩=some (.int .i64 o.at')∧u.cell? ⟨w.heap.size+1,6,none⟩=some (.int .i64 o.fr)∧u.cell? ⟨w.heap.size+1,7,none⟩=some (.int .i64 o.ln)∧u.cell? ⟨w.heap.size+1,8,none⟩=some (.string o.data))∧K6 u (w.heap.size+2) 33 (.int .i64 0) (.int .i64 0) (.slice none 0 0) (.slice none 0 0) (.slice none 0 0) (.slice none 0 0)
abbrev Pe (B:Nat)(w:World)(R:Int×Po)(m:Nat)(e:Ending)(w':World):Prop:=(∃ v' c,e=.returned (.tuple #[v',.int .i64 c])∧Gq v'∧c=R.1∧(c=0->AM B w' v' R.2∧m<=1000))∧Below B w w'∧FrV w w'
abbrev SV (w:World)(vb i:Nat)(x:Vo)(pa:Option Addr)(pn pc vn vc:Nat)(u:World):Prop:=u.cell? ⟨w.heap.size,3,none⟩=some (.slice (some ⟨vb,0,none⟩) vn vc)∧u.cell? ⟨vb,i*4,none⟩=some (.int .i64 x.id)∧u.cell? ⟨vb,i*4+1,none⟩=some (.string x.nm)∧u.cell? ⟨vb,i*4+2,none⟩=some (.bool x.fx)∧u.cell? ⟨vb,i*4+3,none⟩=some (.slice pa pn pc)
def Fp (s:Sr):Prop:=Dg s.d∧A7 s.p
def StF (B:Nat)(w:World)(v:Value)(s:Sr):Prop:=∃ la ln lc sa sn sc oa on oc ea en ec va vn vc ra rn rc ta tn tc,v=.agg #[.slice la ln lc,.slice sa sn sc,.slice oa on oc,.int .i64 s.p.size,.int .i64 s.p.next,.slice ea en ec,.slice va vn vc,.slice ra rn rc,.slice ta tn tc,.int .i64 s.m]∧A5 B w (.agg #[.slice la ln lc,.slice sa sn sc,.slice oa on oc]) s.d∧AC B w (.agg #[.int .i64 s.p.size,.int .i64 s.p.next,.slice ea en ec,.slice va vn vc,.slice ra rn rc,.slice ta tn tc]) s.p
abbrev Ve (e:Ending)(P:Prop):Prop:=∃ b,e=.returned (.bool b)∧(b=true->P)
abbrev K10 (u:World)(b:Nat)(z0 z1 z2 z3 z4 z5 z6 z7 z8 z9:Value):Prop:=Blk u b #[z0,z1,z2,z3,z4,z5,z6,z7,z8,z9] 45∧(u.cell? ⟨b,0,none⟩=some z0∧u.cell? ⟨b,1,none⟩=some z1∧u.cell? ⟨b,2,none⟩=some z2∧u.cell? ⟨b,3,none⟩=some z3∧u.cell? ⟨b,4,none⟩=some z4∧u.cell? ⟨b,5,none⟩=some z5∧u.cell? ⟨b,6,none⟩=some z6∧u.cell? ⟨b,7,none⟩=some z7∧u.cell? ⟨b,8,none⟩=some z8∧u.cell? ⟨b,9,none⟩=some z9)∧u.frozen? ⟨b,0,none⟩=false∧u.frozen? ⟨b,1,none⟩=false∧u.frozen? ⟨b,2,none⟩=false∧u.frozen? ⟨b,3,none⟩=false∧u.frozen? ⟨b,4,none⟩=false∧u.frozen? ⟨b,5,none⟩=false∧u.frozen? ⟨b,6,none⟩=false∧u.frozen? ⟨b,7,none⟩=false∧u.frozen? ⟨b,8,none⟩=false∧u.frozen? ⟨b,9,none⟩=false
abbrev Vf (e:Ending):Prop:=∃ s,e=.returned (.string s)∧s.size<=20
abbrev Pg (w:World)(e:Ending)(w':World):Prop:=(∃ v' c s,e=.returned (.tuple #[v',.int .i64 c])∧StF w.heap.size w' v' s∧Fp s)∧Below w.heap.size w w'
abbrev SY (db lb k:Nat)(x y z:Value)(o:Dp)(u:World):Prop:=(u.cell? ⟨db,0,none⟩=some x∧u.cell? ⟨db,1,none⟩=some y∧u.cell? ⟨db,2,none⟩=some z)∧u.cell? ⟨lb,k*4,none⟩=some (.int .i64 o.k)∧u.cell? ⟨lb,k*4+1,none⟩=some (.string o.nm)∧u.cell? ⟨lb,k*4+2,none⟩=some (.string o.tt)∧u.cell? ⟨lb,k*4+3,none⟩=some (.string o.d)
abbrev SZ (cb db fb:Nat)(x y z f0 f1 f2 f3 f4 f5:Value)(m:Int)(u:World):Prop:=(u.cell? ⟨db,0,none⟩=some x∧u.cell? ⟨db,1,none⟩=some y∧u.cell? ⟨db,2,none⟩=some z)∧(u.cell? ⟨fb,0,none⟩=some f0∧u.cell? ⟨fb,1,none⟩=some f1∧u.cell? ⟨fb,2,none⟩=some f2∧u.cell? ⟨fb,3,none⟩=some f3∧u.cell? ⟨fb,4,none⟩=some f4∧u.cell? ⟨fb,5,none⟩=some f5)∧u.cell? ⟨cb,9,none⟩=some (.int .i64 m)
abbrev Gi (k:Int)(o:Opr)(pw:Int)(ka:Option Addr)(kn kc:Nat)(t:Int):Array Value:=#[.int .i64 k,.int .i64 o.k,.string o.vol,.string o.file,.string o.to,.string o.into,.int .i64 o.at',.int .i64 o.fr,.int .i64 o.ln,.string o.data,.int .i64 pw,.slice ka kn kc,.int .i64 t]
abbrev K13 (u:World)(b:Nat)(k:Int)(o:Opr)(pw:Int)(ka:Option Addr)(kn kc:Nat)(t:Int):Prop:=Blk u b (Gi k o pw ka kn kc t) 83∧u.cell? ⟨b,0,none⟩=some (.int .i64 k)∧u.cell? ⟨b,1,none⟩=some (.int .i64 o.k)∧u.cell? ⟨b,2,none⟩=some (.string o.vol)∧u.cell? ⟨b,3,none⟩=some (.string o.file)∧u.cell? ⟨b,4,none⟩=some (.string o.to)∧u.cell? ⟨b,5,none⟩=some (.string o.into)∧u.cell? ⟨b,6,none⟩=some (.int .i64 o.at')∧u.cell? ⟨b,7,none⟩=some (.int .i64 o.fr)∧u.cell? ⟨b,8,none⟩=some (.int .i64 o.ln)∧u.cell? ⟨b,9,none⟩=some (.string o.data)∧u.cell? ⟨b,10,none⟩=some (.int .i64 pw)∧u.cell? ⟨b,11,none⟩=some (.slice ka kn kc)∧u.cell? ⟨b,12,none⟩=some (.int .i64 t)∧u.frozen? ⟨b,0,none⟩=false∧u.frozen? ⟨b,1,none⟩=false∧u.frozen? ⟨b,2,none⟩=false∧u.frozen? ⟨b,3,none⟩=false∧u.frozen? ⟨b,4,none⟩=false∧u.frozen? ⟨b,5,none⟩=false∧u.frozen? ⟨b,6,none⟩=false∧u.frozen? ⟨b,7,none⟩=false∧u.frozen? ⟨b,8,none⟩=false∧u.frozen? ⟨b,9,none⟩=false∧u.frozen? ⟨b,10,none⟩=false∧u.frozen? ⟨b,11,none⟩=false∧u.frozen? ⟨b,12,none⟩=false
abbrev opZ:Opr:=⟨0,⟨#[]⟩,⟨#[]⟩,⟨#[]⟩,⟨#[]⟩,0,0,0,⟨#[]⟩⟩
abbrev opU:Opr:=⟨1,⟨#[117]⟩,⟨#[]⟩,⟨#[]⟩,⟨#[]⟩,0,0,0,⟨#[]⟩⟩
abbrev DV (u:World)(b:Nat)(la:Option Addr)(ln lc:Nat)(sa:Option Addr)(sn sc:Nat)(oa:Option Addr)(on oc:Nat):Prop:=Blk u b #[.slice la ln lc,.slice sa sn sc,.slice oa on oc] 27∧(u.cell? ⟨b,0,none⟩=some (.slice la ln lc)∧u.cell? ⟨b,1,none⟩=some (.slice sa sn sc)∧u.cell? ⟨b,2,none⟩=some (.slice oa on oc))
def Ju (w:World)(v:Value)(d:Dk):Prop:=∃ la ln lc sa sn sc oa on oc,v=.agg #[.slice la ln lc,.slice sa sn sc,.slice oa on oc]∧Dz w la ln d.live∧Dz w sa sn d.safe∧Pd w oa on d.ops
end
section
open Go.ChangeShapes Go.WideShapes Go.ChangeAt Go.RowKit Go.Deep Go.Joins Tryz
theorem Ju.cells {w:World}{v:Value}{d:Dk}(h:Ju w v d):∃ la ln lc sa sn sc oa on oc,v=.agg #[.slice la ln lc,.slice sa sn sc,.slice oa on oc]:=by
 obtain⟨la,ln,lc,sa,sn,sc,oa,on,oc,rfl,_⟩:=h;exact⟨_,_,_,_,_,_,_,_,_,rfl⟩
end
section
open Go Go.RowKit Go.BigFrame Go.Shelf Tryz
theorem MK {w w':World}{B e:Nat}{v:Value}{n:Nat}{xs:List Value}(h:w.ownsRowF B e 1 v n xs)(hb:Below w.heap.size w w'):w'.ownsRowF B e 1 v n xs:=by
 refine ⟨h.1,?_⟩;rcases h.2 with h0 | ⟨g,cap,cur,fz,h1,h2,h3,r⟩
 ·exact .inl h0
 ·exact .inr ⟨g,cap,cur,fz,h1,h2,(hb.block g (ZG.1 h3).1).trans h3,r⟩
theorem KZ {T e:TypeId}{B b:Nat}{p:Value}{bs:List Value}{w w':World}(h:Lib.BuilderAtF T e B b p bs w)(hb:Below w.heap.size w w'):Lib.BuilderAtF T e B b p bs w':=by
 obtain⟨h1,v,h2,h3,h4⟩:=h;exact⟨h1,v,(hb.block b (ZG.1 h2).1).trans h2,MK h3 hb,h4⟩
theorem Wr.below {B b:Nat}{l:List UInt8}{w w':World}(h:Wr B b l w)(hb:Below w.heap.size w w'):Wr B b l w':=by
 obtain⟨h | h⟩:=h
 ·exact⟨.inl (KZ h hb)⟩
 ·exact⟨.inr (KZ h hb)⟩
end
section
open Go Go.RowKit Go.BigFrame Tryz
def Gx (w:World):Prop:=Lib.TabIs prog w "internal/strconv.uint64pow10" .u64 Lib.pow10Tab
end
section
open Go Go.RowKit Go.BigFrame Go.Shelf Tryz
theorem BN {w w':World}{B:Nat}(h:Gx w)(hb:Below B w w')(hg:9<=B):Gx w':=by
 unfold Gx Lib.TabIs World.var? at h ⊢;have ha:prog.globalNamed "internal/strconv.uint64pow10"=some 4:=sI;rw[ha] at h ⊢;simp only[YO] at h ⊢;rw[hb.block _ sH];exact h
end
section
open Go Go.RowKit Go.BigFrame Tryz
structure Glb (w:World):Prop where
 tab:Gx w
 syn:∃ tp p,w.cell? ⟨2,0,none⟩=some (.iface tp p)
 err:∃ tp p,w.cell? ⟨0,0,none⟩=some (.iface tp p)
 mx:∃ m,w.cell? ⟨1,0,none⟩=some (.int .i64 m)
 sz:9<=w.heap.size
theorem Im {w w':World}{B g:Nat}{v:Value}(h:w.cell? ⟨g,0,none⟩=some v)(hb:Below B w w')(hg:g<B):w'.cell? ⟨g,0,none⟩=some v:=by
 unfold World.cell? at h ⊢;simp only at h ⊢;rw[hb.block g hg];exact h
theorem Glb.low {w w':World}{B:Nat}(h:Glb w)(hb:Below B w w')(hg:9<=B):Glb w':=by
 obtain⟨t1,p1,h1⟩:=h.syn;obtain⟨t2,p2,h2⟩:=h.err;obtain⟨m,h3⟩:=h.mx;exact⟨BN h.tab hb hg,⟨t1,p1,Im h1 hb sH⟩,⟨t2,p2,Im h2 hb sH⟩,⟨m,Im h3 hb sH⟩,Zl h.sz hb.size⟩
theorem Glb.below {w w':World}(h:Glb w)(hb:Below w.heap.size w w'):Glb w':=h.low hb h.sz
theorem Dw.below {w w':World}{rb:Nat}{ls:List By}(h:Dw w rb ls)(hb:Below w.heap.size w w'):Dw w' rb ls:=by
 obtain⟨lb,o,lc,c,h1,h2,r⟩:=h.out;exact⟨lb,o,lc,c,h1.below hb,h2.below hb,r⟩
def lnV:Option Value->Nat
 |some (.slice _ n _)=>n
 |_=>0
theorem Dw.len {w:World}{rb:Nat}{ls:List By}(h:Dw w rb ls):lnV (w.cell? ⟨rb,0,none⟩)=ls.length:=by
 obtain⟨lb,o,lc,c,h1,_⟩:=h.out;have:=h1.cell 0;simp at this;rw[this];rfl
def AG (n:Int):ByteArray:=⟨(Lib.itoa n).toArray⟩
end
section
open Go Go.RowKit Go.BigFrame Go.Shelf Tryz
def Du (ps:List ByteArray):List UInt8:=Lib.join (ps.map (·.data.toList)) [32]
def Ah (ps:List ByteArray):List UInt8:=Du ps++[10]
def ctL (word:ByteArray)(c:Ct):List ByteArray:=[word,AG c.o.a,AG c.o.v,c.o.f,AG c.n]
def ptW (p:Pt):List ByteArray:=[⟨#[112,97,114,116]⟩,AG p.a,AG p.f,AG p.n]
def Bf (l:List Pt):List UInt8:=l.flatMap (fun p=>Ah (ptW p))
def itW (x:It):List UInt8:=Ah [⟨#[102,105,108,101]⟩,x.nm]++Bf x.ps
def Dq (l:List It):List UInt8:=l.flatMap itW
def JG (b:Bool):ByteArray:=if b then ⟨#[49]⟩ else ⟨#[48]⟩
def voW (v:Vo):List ByteArray:=[⟨#[118,111,108,117,109,101]⟩,AG v.id,v.nm,JG v.fx]
def GI (v:Vo):List UInt8:=Ah (voW v)++Dq v.its
def hdW (p:Po):List ByteArray:=[⟨#[112,111,111,108]⟩,AG p.size,AG p.next]
def exW (e:Ex):List ByteArray:=[⟨#[101,120,116,101,110,116]⟩,AG e.a,e.d]
def EA (l:List Ex):List UInt8:=l.flatMap (fun e=>Ah (exW e))
def Cc (l:List Vo):List UInt8:=l.flatMap GI
def Bz (word:ByteArray)(l:List Ct):List UInt8:=l.flatMap (fun c=>Ah (ctL word c))
def EH:ByteArray:=⟨#[114,101,102]⟩
def Cs:ByteArray:=⟨#[108,97,116,101]⟩
def Ay (p:Po):List UInt8:=Ah (hdW p)++EA p.ex++Cc p.vs++Bz EH p.rf++Bz Cs p.lt
theorem Cv (a b:ByteArray)(l:List ByteArray):Du (a::b::l)=a.data.toList++[32]++Du (b::l):=by
 unfold Du;simp[Lib.join]
theorem Dv (a:ByteArray):Du [a]=a.data.toList:=by unfold Du;simp[Lib.join]
end
section
open Go Go.RowKit Go.BigFrame Tryz
theorem Ov {w w':World}{B b:Nat}(hg:w.grownBy w' (some b))(h1:B<=b)(h2:B<=w.heap.size):Below B w w':=(Yg B w).grown hg h2 (fun k e=>by cases e;exact h1)
theorem Glb.grown {w w':World}{b:Nat}(h:Glb w)(hg:w.grownBy w' (some b))(hb:9<=b):Glb w':=h.low (Ov hg hb h.sz) (Zd _)
structure Fc (D:List Nat)(a0 a:Act):Prop where
 rest:∀ k,k∉D->a.tmps[k]?=a0.tmps[k]?
 size:a.tmps.size=a0.tmps.size
 defers:a.defers=a0.defers
theorem Fc.put {D:List Nat}{a0 a:Act}(h:Fc D a0 a){k:Nat}(v:Value)(hk:k∈D):Fc D a0 (a.put (some k) v):=by
 refine ⟨fun j hj=>?_,by simp[Act.put,h.size],h.defers⟩;rw[<-h.rest j hj];have ha:k≠j:=fun e=>hj (e▸hk);simp[Act.put,Za ha]
end
section
open Go.RowKit Tryz
def nmB (s:ByteArray):Bool:=decide (1<=s.size)&&decide (s.size<=100)
end
section
open Go Go.RowKit Go.BigFrame Tryz
structure SlH {α:Type}(cs:α->List Value)(sz:Nat)(w:World)(a:Option Addr)(n cap:Nat)(l:List α):Prop where
 sl:AH cs sz w a n l
 spot:∀ ad,a=some ad->ad.spot=none
 nil:a=none->cap=0
theorem SlH.below {α:Type}{cs:α->List Value}{sz:Nat}{w w':World}{a:Option Addr}{n cap:Nat}{l:List α}(h:SlH cs sz w a n cap l)(hb:Below w.heap.size w w'):SlH cs sz w' a n cap l:=⟨h.sl.below hb,h.spot,h.nil⟩
def Bv (w:World)(v:Value)(d:Dk):Prop:=
 ∃ la ln lc sa sn sc oa on oc,v=.agg #[.slice la ln lc,.slice sa sn sc,.slice oa on oc]∧SlH Fl.cs 2 w la ln lc d.live∧SlH Fl.cs 2 w sa sn sc d.safe∧SlH Dp.cs 4 w oa on oc d.ops
theorem mq{p:Prop}(h:p:=by
 obtain⟨la,ln,lc,sa,sn,sc,oa,on,oc,hv,h1,h2,h3⟩:=h
 exact⟨la,ln,lc,sa,sn,sc,oa,on,oc,hv,h1.below hb,h2.below hb,h3.below hb⟩):p:=h
theorem Bv.below {w w':World}{v:Value}{d:Dk}(h:Bv w v d)(hb:Below w.heap.size w w'):Bv w' v d:=by
 exact mq
structure Hr where
 nm:ByteArray
 pa:Option Addr
 pn:Nat
 pc:Nat
def hrs (r:Hr):List Value:=[.string r.nm,.slice r.pa r.pn r.pc]
structure Hy where
 nm:ByteArray
 ps:List ByteArray
def sps (s:ByteArray):List Value:=[.string s]
structure HT (B:Nat)(w:World)(r:Hr)(y:Hy):Prop where
 nm:r.nm=y.nm
 ps:Ac sps 1 9 w B r.pa r.pn r.pc y.ps
structure HsT (B:Nat)(w:World)(rows:List Hr)(l:List Hy):Prop where
 len:rows.length=l.length
 at':∀ (i:Nat) r y,rows[i]?=some r->l[i]?=some y->HT B w r y
 apart:∀ (i j:Nat) r s x y,i≠j->rows[i]?=some r->rows[j]?=some s->r.pa=some x->s.pa=some y->x.block≠y.block
theorem HT.below {B:Nat}{w w':World}{r:Hr}{y:Hy}(h:HT B w r y)(hb:Below w.heap.size w w'):HT B w' r y:=⟨h.nm,h.ps.below hb⟩
theorem HsT.below {B:Nat}{w w':World}{rows:List Hr}{l:List Hy}(h:HsT B w rows l)(hb:Below w.heap.size w w'):HsT B w' rows l:=⟨h.len,fun i r y h1 h2=>(h.at' i r y h1 h2).below hb,h.apart⟩
theorem HT.mono {B B':Nat}{w:World}{r:Hr}{y:Hy}(h:HT B w r y)(hb:B'<=B):HT B' w r y:=⟨h.nm,h.ps.mono hb⟩
theorem HsT.mono {B B':Nat}{w:World}{rows:List Hr}{l:List Hy}(h:HsT B w rows l)(hb:B'<=B):HsT B' w rows l:=⟨h.len,fun i r y h1 h2=>(h.at' i r y h1 h2).mono hb,h.apart⟩
theorem HsT.block {B:Nat}{w:World}{rows:List Hr}{l:List Hy}(h:HsT B w rows l){i:Nat}{r:Hr}(hi:rows[i]?=some r):∀ ad,r.pa=some ad->B<=ad.block∧ad.block<w.heap.size:=fun ad ha=>by
 have hl:=(Zb.1 hi).1
 exact (h.at' i r _ hi (ZI (by rw[<-h.len];exact hl))).ps.block ad ha
def plH (l:List Hy)(s:ByteArray):Nat:=(l.takeWhile (fun y=>bl y.nm.toList s.toList)).length
def B3 (l:List Hy)(s:ByteArray):Bool:=match l[plH l s]? with | some y=>y.nm.toList==s.toList | none=>false
def Bo (l:List Hy):Prop:=∀ (i j:Nat) x y,i<j->l[i]?=some x->l[j]?=some y->bl x.nm.toList y.nm.toList=true
theorem MM {s:ByteArray}:∀ {l:List Hy} {i:Nat},i<=l.length->(∀ (t:Nat) (x:Hy),t<i->l[t]?=some x->bl x.nm.toList s.toList=true)->(∀ (t:Nat) (x:Hy),i<=t->l[t]?=some x->bl x.nm.toList s.toList=false)->plH l s=i
 |[],i,hi,_,_=>by simp at hi;subst hi;rfl
 |y::r,0,_,_,h2=>by
  have:=h2 0 y (Zd _) rfl
  simp[plH,List.takeWhile,this]
 |y::r,i+1,hi,h1,h2=>by
  have:=h1 0 y sH rfl
  have ih:=MM (s:=s) (l:=r) (i:=i) rL (fun t x ht hx=>h1 (t+1) x sH oz) (fun t x ht hx=>h2 (t+1) x sH oz)
  unfold plH at ih ⊢
  simp[List.takeWhile,this,ih]
def FrS (sb:Nat)(a:Option Addr)(w w':World):Prop:=∀ k,k<w.heap.size->k≠sb->(∀ ad,a=some ad->k≠ad.block)->w'.heap[k]?=w.heap[k]?
theorem FrS.grown {sb:Nat}{a:Option Addr}{w w1 w2:World}{row:Option Nat}(h:FrS sb a w w1)(hs:w.heap.size<=w1.heap.size)(hg:w1.grownBy w2 row)(hr:∀ k,row=some k->k=sb∨(∃ ad,a=some ad∧k=ad.block)∨w.heap.size<=k):FrS sb a w w2:=fun k hk h1 h2=>by
 rw[hg.block k sH (fun e=>?_)]
 ·exact h k hk h1 h2
 ·rcases hr k e.symm with h3 | ⟨ad,h3,h4⟩ | h3
  ·exact h1 h3
  ·exact h2 ad h3 h4
  ·omega
end
section
open Go Go.RowKit Tryz
theorem ML {l:List Hy}(hs:Bo l){s:ByteArray}{j:Nat}{y:Hy}(hy:l[j]?=some y)(he:y.nm.toList=s.toList):plH l s=j:=by
 refine MM (Nat.le_of_lt (Zb.1 hy).1) (fun t x ht hx=>?_) (fun t x ht hx=>?_)
 ·rw[<-he];exact hs t j x y ht hx hy
 ·by_cases h:t=j
  ·subst h;rw[hy] at hx;cases hx;rw[he];exact cn_ _
  ·have:=hs j t y x sH hy hx;rw[he] at this;exact jU_ this
theorem My {l:List Hy}(hs:Bo l){s:ByteArray}{j:Nat}{y:Hy}(hy:l[j]?=some y)(he:y.nm.toList=s.toList):B3 l s=true:=by
 unfold B3;rw[ML hs hy he,hy];simp[he]
theorem Nc {α:Type}(q:α->Bool):∀ (l:List α) (x:α),x∈l.takeWhile q->q x=true
 |[],x,h=>by simp at h
 |y::r,x,h=>by
  cases hy:q y
  ·rw[List.takeWhile_cons,hy] at h;simp at h
  ·rw[List.takeWhile_cons,hy] at h
   simp at h
   rcases h with rfl | h
   ·exact hy
   ·exact Nc q r x h
theorem Km {α:Type}(q:α->Bool):∀ (l:List α) (x:α),(l.dropWhile q)[0]?=some x->q x=false
 |[],x,h=>by simp at h
 |y::r,x,h=>by
  cases hy:q y
  ·rw[List.dropWhile_cons,hy] at h
   simp at h
   rw[<-h];exact hy
  ·rw[List.dropWhile_cons,hy] at h
   exact Km q r x h
theorem Bo.put {l:List Hy}(hs:Bo l)(y:Hy)(hh:B3 l y.nm=false):Bo (l.take (plH l y.nm)++[y]++l.drop (plH l y.nm)):=by
 have h1:=d5_ (fun z:Hy=>bl z.nm.toList y.nm.toList) l;have hp:plH l y.nm<=l.length:=by
  unfold plH;exact (List.takeWhile_sublist _).length_le
 have hl:∀ (t:Nat) x,t<plH l y.nm->l[t]?=some x->bl x.nm.toList y.nm.toList=true:=by
  intro t x ht hx;have hm:x∈l.takeWhile (fun z:Hy=>bl z.nm.toList y.nm.toList):=by
   rw[<-h1.1];refine List.mem_iff_getElem?.2 ⟨t,?_⟩;rw[List.getElem?_take];unfold plH at ht;simp[ht,hx]
  exact Nc (fun z:Hy=>bl z.nm.toList y.nm.toList) l x hm
 have hn:∀ (t:Nat) x,l[t]?=some x->x.nm.toList≠y.nm.toList:=fun t x hx he=>by rw[My hs hx he] at hh;cases hh
 have hg:∀ (t:Nat) x,plH l y.nm<=t->l[t]?=some x->bl y.nm.toList x.nm.toList=true:=by
  intro t x ht hx
  cases hb:bl x.nm.toList y.nm.toList
  ·exact jT_ hb (hn t x hx)
  ·exfalso
   -- all ahead of t are less too: so the first one that is not lies behind t
   have hf:plH l y.nm<l.length:=by have:=(Zb.1 hx).1;omega
   obtain⟨z,hz⟩:∃ z,l[plH l y.nm]?=some z:=⟨_,ZI hf⟩;have ho:bl z.nm.toList y.nm.toList=true:=by
    by_cases he:plH l y.nm=t
    ·rw[he,hx] at hz;cases hz;exact hb
    ·exact hl_ (hs _ t z x sH hz hx) hb
   have hd:(l.dropWhile (fun z:Hy=>bl z.nm.toList y.nm.toList))[0]?=some z:=by
    rw[<-h1.2,List.getElem?_drop];simpa [plH] using hz
   have hc:=Km (fun z:Hy=>bl z.nm.toList y.nm.toList) l z hd;rw[ho] at hc;cases hc
 have ha:∀ (i:Nat) x,(l.take (plH l y.nm)++[y]++l.drop (plH l y.nm))[i]?=some x->(i<plH l y.nm∧l[i]?=some x)∨(i=plH l y.nm∧x=y)∨(plH l y.nm<i∧l[i-1]?=some x):=by
  intro i x hx;have hf:(l.take (plH l y.nm)).length=plH l y.nm:=sN;rw[ZC] at hx;by_cases h1:i<plH l y.nm
  ·rw[ZD sH,List.getElem?_take] at hx;exact .inl ⟨h1,by simpa [h1] using hx⟩
  ·rw[Zv sH,hf] at hx;by_cases h2:i=plH l y.nm
   ·rw[h2] at hx;simp at hx;exact .inr (.inl ⟨h2,hx.symm⟩)
   ·obtain⟨k,hk⟩:∃ k,i-plH l y.nm=k+1:=⟨i-plH l y.nm-1,sH⟩;rw[hk] at hx;simp only[List.singleton_append,Yt,List.getElem?_drop] at hx;exact .inr (.inr ⟨sH,by rw[show i-1=plH l y.nm+k by omega];exact hx⟩)
 intro i j x z hj hx hz;rcases ha i x hx with⟨a1,a2⟩ | ⟨a1,rfl⟩ | ⟨a1,a2⟩<;>rcases ha j z hz with⟨b1,b2⟩ | ⟨b1,rfl⟩ | ⟨b1,b2⟩
 ·exact hs i j x z hj a2 b2
 ·exact hl i x a1 a2
 ·exact hs i (j-1) x z sH a2 b2
 ·omega
 ·omega
 ·exact hg (j-1) z sH b2
 ·omega
 ·omega
 ·exact hs (i-1) (j-1) x z sH a2 b2
structure Hh (M S:Nat)(l:List Hy):Prop where
 ps:∀ y∈l,y.ps.length<=M
 sz:∀ y∈l,∀ s∈y.ps,s.size<=S
 nm:∀ y∈l,nmB y.nm=true
theorem Hh.mono {M S M' S':Nat}{l:List Hy}(h:Hh M S l)(h1:M<=M')(h2:S<=S'):Hh M' S' l:=⟨fun y hy=>Zl (h.ps y hy) h1,fun y hy s hs=>Zl (h.sz y hy s hs) h2,h.nm⟩
end
section
open Go Go.RowKit Go.BigFrame Tryz
def GL (B sb:Nat)(w:World)(l:List Hy):Prop:=∃ a n cap rows,Blk w sb #[.slice a n cap] 135∧Ac hrs 2 192 w B a n cap rows∧HsT B w rows l
theorem GL.below {B sb:Nat}{w w':World}{l:List Hy}(h:GL B sb w l)(hb:Below w.heap.size w w'):GL B sb w' l:=by
 obtain⟨a,n,cap,rows,h1,h2,h3⟩:=h;exact⟨a,n,cap,rows,h1.below hb,h2.below hb,h3.below hb⟩
theorem Ju.below {w w':World}{v:Value}{d:Dk}(h:Ju w v d)(hb:Below w.heap.size w w'):Ju w' v d:=by
 exact mq
structure Ey {α:Type}(cs:α->List Value)(sz:Nat)(t:TypeId)(w:World)(B:Nat)(a:Option Addr)(n cap:Nat)(l:List α):Prop where
 sl:AH cs sz w a n l
 own:(a=none∧n=0∧cap=0)∨∃ b c,a=some ⟨b,0,none⟩∧B<=b∧Blk w b c t∧n*sz<=c.size
theorem Ey.below {α:Type}{cs:α->List Value}{sz:Nat}{t:TypeId}{w w':World}{B n cap:Nat}{a:Option Addr}{l:List α}(h:Ey cs sz t w B a n cap l)(hb:Below w.heap.size w w'):Ey cs sz t w' B a n cap l:=by
 refine ⟨h.sl.below hb,?_⟩;rcases h.own with h0 | ⟨b,c,ha,hB,hc,h1⟩
 ·exact .inl h0
 ·exact .inr ⟨b,c,ha,hB,hc.below hb,h1⟩
theorem Ey.mono {α:Type}{cs:α->List Value}{sz:Nat}{t:TypeId}{w:World}{B n cap:Nat}{a:Option Addr}{l:List α}{B':Nat}(h:Ey cs sz t w B a n cap l)(hb:B'<=B):Ey cs sz t w B' a n cap l:=by
 refine ⟨h.sl,?_⟩;rcases h.own with h0 | ⟨b,c,ha,hB,hc,h1⟩
 ·exact .inl h0
 ·exact .inr ⟨b,c,ha,sH,hc,h1⟩
def Kb (B:Nat)(t:TypeId)(u:World)(x:Value):Prop:=∃ b,x=.slice (some ⟨b,0,none⟩) 0 0∧Blk u b #[] t∧B<=b
def GK {α:Type}(cs:α->List Value)(sz:Nat)(t:TypeId)(B n:Nat)(l:List α)(u:World)(x:Value):Prop:=∃ a cap,x=.slice a n cap∧Ac cs sz t u B a n cap l
theorem Kb.below {B:Nat}{t:TypeId}{u u':World}{x:Value}(h:Kb B t u x)(hb:Below u.heap.size u u'):Kb B t u' x:=by
 obtain⟨b,h1,h2,h3⟩:=h;exact⟨b,h1,h2.below hb,h3⟩
theorem GK.below {α:Type}{cs:α->List Value}{sz:Nat}{t:TypeId}{B n:Nat}{l:List α}{u u':World}{x:Value}(h:GK cs sz t B n l u x)(hb:Below u.heap.size u u'):GK cs sz t B n l u' x:=by
 obtain⟨a,cap,h1,h2⟩:=h;exact⟨a,cap,h1,h2.below hb⟩
theorem A5.below {B:Nat}{w w':World}{v:Value}{d:Dk}(h:A5 B w v d)(hb:Below w.heap.size w w'):A5 B w' v d:=by
 exact mq
theorem A5.mono {B B':Nat}{w:World}{v:Value}{d:Dk}(h:A5 B w v d)(hb:B'<=B):A5 B' w v d:=by
 obtain⟨la,ln,lc,sa,sn,sc,oa,on,oc,hv,h1,h2,h3⟩:=h;exact⟨la,ln,lc,sa,sn,sc,oa,on,oc,hv,h1.mono hb,h2.mono hb,h3.mono hb⟩
theorem AK.mono {B B':Nat}{w:World}{v:Value}{p:Po}(h:AK B w v p)(hb:B'<=B):AK B' w v p:=by
 obtain⟨ea,en,ec,va,vn,vc,ra,rn,rc,la,ln,lc,vr,e,h1,h2,h3,h4,h5,h6,h7,h8⟩:=h.out;exact⟨ea,en,ec,va,vn,vc,ra,rn,rc,la,ln,lc,vr,e,h1.mono hb,h2.mono hb,h3.mono hb,h4.mono hb,h5,h6.imp fun _ _ _ h=>⟨h.id,h.nm,h.fx,h.rows.mono hb,h.its.imp fun _ _ _ h=>⟨h.nm,h.ps.mono hb⟩⟩,h7,h8⟩
theorem HsT.nil (B:Nat)(w:World):HsT B w [] []:=⟨rfl,fun i r y h=>by simp at h,fun i j r s x y _ h=>by simp at h⟩
theorem HsT.off {B:Nat}{w w':World}{rows:List Hr}{l:List Hy}{row:Option Nat}(h:HsT B w rows l)(hg:w.grownBy w' row)(hr:∀ (i:Nat) q x,rows[i]?=some q->q.pa=some x->some x.block≠row):HsT B w' rows l:=
 ⟨h.len,fun i r y h1 h2=>⟨(h.at' i r y h1 h2).nm,(h.at' i r y h1 h2).ps.off hg (fun ad e=>hr i r ad h1 e)⟩,h.apart⟩
theorem Ey.block {α:Type}{cs:α->List Value}{sz:Nat}{t:TypeId}{w:World}{B n cap:Nat}{a:Option Addr}{l:List α}(h:Ey cs sz t w B a n cap l):∀ ad,a=some ad->B<=ad.block∧ad.block<w.heap.size:=by
 intro ad e;rcases h.own with⟨h0,_⟩ | ⟨b,c,ha,hB,hc,_⟩
 ·rw[h0] at e;cases e
 ·rw[ha] at e;cases e;exact⟨hB,hc.lt⟩
theorem Ey.off {α:Type}{cs:α->List Value}{sz:Nat}{t:TypeId}{w w':World}{B n cap:Nat}{a:Option Addr}{l:List α}{row:Option Nat}(h:Ey cs sz t w B a n cap l)(hg:w.grownBy w' row)(hr:∀ ad,a=some ad->some ad.block≠row):Ey cs sz t w' B a n cap l:=by
 refine ⟨kb_ h.sl hg hr,?_⟩;rcases h.own with h0 | ⟨b,c,ha,hB,hc,h1⟩
 ·exact .inl h0
 ·exact .inr ⟨b,c,ha,hB,(hg.block _ hc.lt (hr _ ha)).trans hc,h1⟩
theorem A5.off {B b:Nat}{w w':World}{v:Value}{d:Dk}(h:A5 B w v d)(hg:w.grownBy w' (some b))(hb:b<B):A5 B w' v d:=by
 obtain⟨la,ln,lc,sa,sn,sc,oa,on,oc,hv,h1,h2,h3⟩:=h;exact⟨la,ln,lc,sa,sn,sc,oa,on,oc,hv,h1.grown hg (fun ad e=>by have:=(h1.block ad e).1;omega),h2.grown hg (fun ad e=>by have:=(h2.block ad e).1;omega),h3.grown hg (fun ad e=>by have:=(h3.block ad e).1;omega)⟩
end
section
open Go Go.RowKit Go.BigFrame Go.Shelf Tryz
theorem HL {size:Int}:∀ {l:List Ex} {next:Int},xgo size next l=true->1<=next->∀ e∈l,1<=e.a∧e.a<=size+1∧e.d.size<=20
 |[],_,_,_=>by simp
 |e::r,next,h,h1=>by
  simp only[xgo,At,Zf,ZU] at h
  intro x hx
  rcases Zn.1 hx with rfl | hx
  ·omega
  ·exact HL h.2 sH x hx
theorem HI {next:Int}{e:List Ex}:∀ {l:List Vo} {last:Int},vgo next e last l=true->0<=last->∀ v∈l,0<v.id∧v.id<next∧v.nm.size<=8∧v.its.length<=5∧igo e none v.its=true
 |[],_,_,_=>by simp
 |v::r,last,h,h1=>by
  simp only[vgo,itemsB,nameB,Zf,ZU] at h
  obtain⟨⟨⟨⟨a1,a2⟩,a3⟩,a4⟩,a5⟩:=h
  intro x hx
  rcases Zn.1 hx with rfl | hx
  ·exact⟨sH,a2,a3.1.2,a4.1,a4.2⟩
  ·exact HI a5 sH x hx
theorem Hp {e:List Ex}:∀ {l:List It} {q:Option It},igo e q l=true->∀ x∈l,x.nm.size<=8∧Ae x.ps=true
 |[],_,_=>by simp
 |y::r,q,h=>by
  simp only[igo,nameB,Zf,ZU] at h
  obtain⟨⟨⟨a1,_⟩,a3⟩,a4⟩:=h
  intro x hx
  rcases Zn.1 hx with rfl | hx
  ·refine ⟨a1.1.2,?_⟩
   unfold Ax at a3
   split at a3
   ·rename_i h;exact h.1
   ·cases a3
  ·exact Hp a4 x hx
theorem pR{p:Prop}(h:p:=by
 split at h
 ·rename_i ha;simp only[Zf,ZU,beq_iff_eq] at h ha;omega
 ·simp only[Zf,ZU] at h
  omega):p:=h
theorem JT {p:Po}(h:Ai p=true):AB p.rf=true∧AQ p.lt=true:=by
 simp only[Ai,Zf] at h;have h1:=h.1.2;by_cases hh:AB p.rf=true∧AQ p.lt=true
 ·exact hh
 ·unfold As at h1;rw[if_neg hh] at h1
  cases h1
end
section
open Go Go.RowKit Go.BigFrame Tryz
theorem Dw.ty {w w':World}{rb:Nat}{ls:List By}{row:Option Nat}{t:TypeId}(h:Dw w rb ls)(hg:w.grownBy w' row)(hr:BC w row t)(h1:tRd≠t)(h2:9≠t):Dw w' rb ls:=by
 obtain⟨lb,o,lc,c,e1,e2,r⟩:=h.out;exact⟨lb,o,lc,c,e1.ty hg hr h1,e2.ty hg hr h2,r⟩
theorem HsT.ty {B:Nat}{w w':World}{rows:List Hr}{l:List Hy}{row:Option Nat}{t':TypeId}(h:HsT B w rows l)(hg:w.grownBy w' row)(hr:BC w row t')(ht:(9:TypeId)≠t'):HsT B w' rows l:=⟨h.len,fun i r y h1 h2=>⟨(h.at' i r y h1 h2).nm,(h.at' i r y h1 h2).ps.ty hg hr ht⟩,h.apart⟩
theorem HT.ty {B:Nat}{w w':World}{r:Hr}{y:Hy}{row:Option Nat}{t':TypeId}(h:HT B w r y)(hg:w.grownBy w' row)(hr:BC w row t')(ht:(9:TypeId)≠t'):HT B w' r y:=⟨h.nm,h.ps.ty hg hr ht⟩
theorem Fc.eval {D:List Nat}{a0 a:Act}(h:Fc D a0 a){k:Nat}(hk:k∉D):a.eval (.tmp k)=a0.eval (.tmp k):=by
 have:=h.rest k hk;simp only[Act.eval,Array.getD_eq_getD_getElem?,this]
end
section
open Go Go.RowKit Go.BigFrame Go.Shelf Tryz
theorem Blk.ok {w w':World}{k b:Nat}{c:Array Value}{t:TypeId}(h:Blk w k c t)(hk:Lib.OthersKept 5 (some b) w w')(hb:k≠b)(ht:t≠5):Blk w' k c t:=hk k _ h (by simpa using hb) (fun c' fz e=>by cases e;exact ht rfl)
end
section
open Go Go.RowKit Go.BigFrame Tryz
theorem GP:∀ (m k:Nat),k<10 ^ (m+1)->(Lib.decDigits k).length<=m+1
 |0,k,h=>by rw[Lib.decDigits,dif_pos sP];simp
 |m+1,k,h=>by
  rw[Lib.decDigits]
  split
  ·simp
  ·have:=GP m (k / 10) (by rw[Nat.pow_succ] at h;omega)
   simp
   omega
theorem Cq {n:Int}(h0:-1000000000000<n)(h1:n<1000000000000):(AG n).size<=13:=by
 show (Lib.itoa n).toArray.size<=13;rw[YI];unfold Lib.itoa;split
 ·have:=GP 11 n.natAbs sH;simp;omega
 ·have:=GP 11 n.toNat sH;omega
end
section
open Go Go.RowKit Go.BigFrame Go.Shelf Tryz
def Num (n:Int):Prop:=-1000000000000<n∧n<1000000000000
def TU (l:List Pt):Prop:=∀ p∈l,Num p.a∧Num p.f∧Num p.n
structure Je (p:Po):Prop where
 size:Num p.size
 next:Num p.next
 ex:∀ e∈p.ex,Num e.a
 vs:∀ v∈p.vs,Num v.id∧(∀ x∈v.its,TU x.ps)∧v.its.length<=4194304∧∀ x∈v.its,x.ps.length<=4194304
 rf:∀ c∈p.rf,Num c.o.a∧Num c.o.v∧Num c.n
 lt:∀ c∈p.lt,Num c.o.a∧Num c.o.v∧Num c.n
 len:(Ay p).length<=1000000
end
section
open Go Go.RowKit Go.BigFrame Tryz
theorem Ey.ty {α:Type}{cs:α->List Value}{sz:Nat}{t t':TypeId}{w w':World}{B n cap:Nat}{a:Option Addr}{l:List α}{row:Option Nat}(h:Ey cs sz t w B a n cap l)(hg:w.grownBy w' row)(hr:BC w row t')(ht:t≠t'):Ey cs sz t w' B a n cap l:=by
 refine h.off hg (fun ad e hc=>?_);obtain⟨c',h'⟩:=hr _ hc.symm;rcases h.own with⟨h0,_⟩ | ⟨b,c,ha,_,hb,_⟩
 ·rw[h0] at e;cases e
 ·rw[ha] at e;cases e;exact ht (kc_ hb h')
theorem Al2.itsAt {w:World}{B n cap:Nat}{a:Option Addr}{l:List IQ}{m:List It}(h:Ac IQ.cs 2 tI w B a n cap l)(hA:Al2 (ItR w B) l m):BT B w a n m:=by
 refine ⟨by rw[<-hA.len,h.sl.len],fun i x hx=>?_⟩;obtain⟨r,hr,hq⟩:=hA.at hx;obtain⟨b,o,ha,hc⟩:=h.sl.cell i r hr;have h0:=hc 0 _ rfl;have h1:=hc 1 _ rfl;have hs:=h.sf;refine ⟨b,o,r.a,r.n,r.c,ha,by rw[<-hq.nm];simpa using h0,rR,hq.ps.sl,hq.ps.hd,?_,fun ad e=>(hq.ps.block ad e).1,hq.ps.sf,hs⟩;exact (h.block _ ha).1
theorem AK.at {w:World}{B:Nat}{v:Value}{p:Po}(h:AK B w v p):AC B w v p:=by
 obtain⟨ea,en,ec,va,vn,vc,ra,rn,rc,la,ln,lc,vr,e,h1,h2,h3,h4,_,h6,_,_⟩:=h.out;refine ⟨ea,en,ec,va,vn,vc,ra,rn,rc,la,ln,lc,e,⟨h1.sl,h1.hd,h1.sf⟩,⟨⟨by rw[<-h6.len,h2.sl.len],fun i x hx=>?_⟩,h2.hd⟩,⟨h3.sl,h3.hd,h3.sf⟩,h4.sl,h4.hd,h4.sf⟩;obtain⟨r,hr,hq⟩:=h6.at hx;obtain⟨b,o,ha,hc⟩:=h2.sl.cell i r hr;have c0:=hc 0 _ rfl;have c1:=hc 1 _ rfl;have c2:=hc 2 _ rfl;have c3:=hc 3 _ rfl;exact⟨b,o,r.a,r.n,r.c,ha,by rw[<-hq.id];simpa using c0,by rw[<-hq.nm];simpa using c1,by rw[<-hq.fx];simpa using c2,by simpa using c3,hq.its.itsAt hq.rows,hq.rows.hd,(h2.block _ ha).1,h2.sf⟩
theorem Ac.slH {α:Type}{cs:α->List Value}{sz:Nat}{t:TypeId}{w:World}{B n cap:Nat}{a:Option Addr}{l:List α}(h:Ac cs sz t w B a n cap l):SlH cs sz w a n cap l:=by
 refine ⟨h.sl,fun ad e=>?_,fun e=>?_⟩
 ·rcases h.own with⟨h0,_⟩ | ⟨b,h1,_⟩
  ·rw[h0] at e;cases e
  ·rw[h1] at e;cases e;rfl
 ·rcases h.own with⟨_,_,h0⟩ | ⟨b,h1,_⟩
  ·exact h0
  ·rw[h1] at e;cases e
theorem Ey.slH {α:Type}{cs:α->List Value}{sz:Nat}{t:TypeId}{w:World}{B n cap:Nat}{a:Option Addr}{l:List α}(h:Ey cs sz t w B a n cap l):SlH cs sz w a n cap l:=by
 refine ⟨h.sl,fun ad e=>?_,fun e=>?_⟩
 ·rcases h.own with⟨h0,_⟩ | ⟨b,c,ha,_⟩
  ·rw[h0] at e;cases e
  ·rw[ha] at e;cases e;rfl
 ·rcases h.own with⟨_,_,h0⟩ | ⟨b,c,ha,_⟩
  ·exact h0
  ·rw[ha] at e;cases e
theorem A5.at {B:Nat}{w:World}{v:Value}{d:Dk}(h:A5 B w v d):Bv w v d:=by
 obtain⟨la,ln,lc,sa,sn,sc,oa,on,oc,hv,h1,h2,h3⟩:=h;exact⟨la,ln,lc,sa,sn,sc,oa,on,oc,hv,h1.slH,h2.slH,h3.slH⟩
end
section
open Go Go.RowKit Go.BigFrame Go.Shelf Tryz
theorem QC {p:Pt}(h:Al p=true)(hn:p.n<=100):Num p.a∧Num p.f∧Num p.n:=by
 unfold Al at h;unfold Num;exact pR
theorem Kj {n:Int}(h0:-10000000000<n)(h1:n<10000000000):(AG n).size<=11:=by
 show (Lib.itoa n).toArray.size<=11;rw[YI];unfold Lib.itoa;split
 ·have:=GP 9 n.natAbs sH;simp;omega
 ·have:=GP 9 n.toNat sH;omega
theorem pQ{p:Prop}(h:p:=by exact⟨Kj sH sH,Kj sH sH,Kj sH sH⟩):p:=h
theorem QA {p:Pt}(h:Al p=true)(hn:p.n<=100):(AG p.a).size<=11∧(AG p.f).size<=11∧(AG p.n).size<=11:=by
 unfold Al at h;split at h
 ·rename_i ha;simp only[Zf,ZU,beq_iff_eq] at h ha;exact pQ
 ·simp only[Zf,ZU] at h;exact pQ
theorem Cu:∀ (l:List ByteArray),(Du l).length<=(l.map (fun x=>x.size+1)).sum
 |[]=>by unfold Du;simp[Lib.join]
 |[a]=>by rw[Dv];simp
 |a::b::l=>by
  rw[Cv]
  have:=Cu (b::l)
  simp at this ⊢
  omega
theorem CW {α:Type}{f:α->List UInt8}{m:Nat}:∀ {l:List α},(∀ x∈l,(f x).length<=m)->(l.flatMap f).length<=l.length*m
 |[],_=>by simp
 |x::r,h=>by
  have h1:=h x sK
  have h2:=CW (l:=r) fun y hy=>h y rN
  rw[ZF,ZE,Zw,Yd]
  omega
theorem EQ {n:Int}(h:Num n):(AG n).size<=13:=Cq h.1 h.2
theorem PG {c:Ct}(h:AO c.o=true)(h1:-1000<=c.n)(h2:c.n<=1000):(Num c.o.a∧Num c.o.v∧Num c.n)∧c.o.f.size<=8:=by
 simp only[AO,nameB,Zf,ZU] at h;unfold Num;omega
theorem Nq {word:ByteArray}{c:Ct}(hw:word.size<=4)(h:Num c.o.a∧Num c.o.v∧Num c.n)(hf:c.o.f.size<=8):(Ah (ctL word c)).length<=60:=by
 have h1:=Cu (ctL word c);have:=EQ h.1;have:=EQ h.2.1;have:=EQ h.2.2;unfold Ah;simp[ctL] at h1 ⊢;omega
theorem IK {p:Po}(h:Ai p=true):Je p∧(Ay p).length<=60000:=by
 obtain⟨v1,v2,v3,v4,_⟩:=bL_ h;obtain⟨s1,s2,s3,s4⟩:=cu_ v4;obtain⟨r1,r2⟩:=JT h;have ha:1<=p.next:=by
  simp only[Ai,Zf,ZU] at h;exact h.1.1.1.1.1.2
 have hE:=HL s4 sH;have hV:=HI v2 sH;simp only[AB,Zf,ZU] at r1;simp only[AQ,Zf,ZU,List.all_eq_true] at r2;have hR:∀ c∈p.rf,(Num c.o.a∧Num c.o.v∧Num c.n)∧c.o.f.size<=8:=fun c hc=>by
  have:=g1_ r1.2 c hc;simp only[EY,Zf,ZU] at this;exact PG this.1.1 sH this.2
 have hL:∀ c∈p.lt,(Num c.o.a∧Num c.o.v∧Num c.n)∧c.o.f.size<=8:=fun c hc=>by
  have:=r2.2 c hc;simp only[CG,Zf,ZU] at this;exact PG this.1.1.1 this.1.1.2 this.1.2
 have hs:Num p.size:=⟨sH,sH⟩;have hn:Num p.next:=⟨sH,sH⟩;have hX:∀ e∈p.ex,Num e.a:=fun e he=>by have:=hE e he;exact⟨sH,sH⟩
 have hI:∀ v∈p.vs,∀ x∈v.its,TU x.ps∧x.ps.length<=16∧x.nm.size<=8∧∀ q∈x.ps,(AG q.a).size<=11∧(AG q.f).size<=11∧(AG q.n).size<=11:=fun v hv x hx=>by
  obtain⟨_,_,_,_,a5⟩:=hV v hv;obtain⟨b1,b2⟩:=Hp a5 x hx;simp only[Ae,Zf,ZU] at b2;exact⟨fun q hq=>QC (jR_ b2.2 sH q hq).1 (jR_ b2.2 sH q hq).2,b2.1,b1,fun q hq=>QA (jR_ b2.2 sH q hq).1 (jR_ b2.2 sH q hq).2⟩
 suffices hlen:(Ay p).length<=60000 from ⟨⟨hs,hn,hX,fun v hv=>⟨⟨by have:=(hV v hv).1;omega,by have:=(hV v hv).2.1;omega⟩,fun x hx=>(hI v hv x hx).1,by have:=(hV v hv).2.2.2.1;omega,fun x hx=>by have:=(hI v hv x hx).2.1;omega⟩,fun c hc=>(hR c hc).1,fun c hc=>(hL c hc).1,sH⟩,hlen⟩
 have t1:(Ah (hdW p)).length<=50:=by
  have h1:=Cu (hdW p);have:=EQ hs;have:=EQ hn;unfold Ah;simp[hdW] at h1 ⊢;have e4:(ByteArray.mk #[112,111,111,108]).size=4:=rfl;omega
 have t2:(EA p.ex).length<=p.ex.length*60:=CW fun e he=>by
  have h1:=Cu (exW e);have:=EQ (hX e he);have:=(hE e he).2.2;have e6:(ByteArray.mk #[101,120,116,101,110,116]).size=6:=rfl;show (Ah (exW e)).length<=_;unfold Ah;simp[exW] at h1 ⊢;omega
 have t3:(Cc p.vs).length<=p.vs.length*4000:=CW fun v hv=>by
  obtain⟨a1,a2,a3,a4,_⟩:=hV v hv;have h1:=Cu (voW v);have:=EQ (n:=v.id) ⟨sH,sH⟩;have e6:(ByteArray.mk #[118,111,108,117,109,101]).size=6:=rfl;have e1:(JG v.fx).size=1:=by cases v.fx<;>rfl
  have i1:(Dq v.its).length<=v.its.length*740:=CW fun x hx=>by
   obtain⟨_,b2,b3,b4⟩:=hI v hv x hx;have p1:(Bf x.ps).length<=x.ps.length*44:=CW fun q hq=>by
    obtain⟨c1,c2,c3⟩:=b4 q hq;have h1:=Cu (ptW q);have e4:(ByteArray.mk #[112,97,114,116]).size=4:=rfl;show (Ah (ptW q)).length<=_;unfold Ah;simp[ptW] at h1 ⊢;omega
   have h1:=Cu [⟨#[102,105,108,101]⟩,x.nm];have e4:(ByteArray.mk #[102,105,108,101]).size=4:=rfl;unfold itW Ah;simp at h1 ⊢;omega
  unfold GI Ah;simp[voW] at h1 ⊢;omega
 have t4:(Bz EH p.rf).length<=p.rf.length*60:=CW fun c hc=>Nq sJ (hR c hc).1 (hR c hc).2;have t5:(Bz Cs p.lt).length<=p.lt.length*60:=CW fun c hc=>Nq sJ (hL c hc).1 (hL c hc).2;unfold Ay;rw[ZE,ZE,ZE,ZE];have:=r1.1;have:=r2.1;omega
end
section
open Go Go.RowKit Go.BigFrame Tryz
theorem DY {a b:ByteArray}(h:a.data.toList=b.data.toList):a=b:=by
 cases a;cases b;simp at h;rw[h]
def Lg (k:Nat)(o:ByteArray):ByteArray:=⟨(Lib.decDigits k).toArray⟩++o
theorem Om {k:Nat}(o:ByteArray)(h:10<=k):Lg k o=Lg (k / 10) (strOfNums [48+(k:Int) % 10]++o):=by
 unfold Lg;rw[Lib.decDigits,dif_neg sH];have e:strOfNums [48+(k:Int) % 10]=⟨#[UInt8.ofNat (48+k % 10)]⟩:=by
  unfold strOfNums;have:(48+(k:Int) % 10).toNat=48+k % 10:=sH;simp[this]
 rw[e];refine DY ?_;simp[ByteArray.data_append]
theorem Ol {k:Nat}(o:ByteArray)(h:k<10):Lg k o=strOfNums [48+(k:Int)]++o:=by
 unfold Lg;rw[Lib.decDigits,dif_pos h];have e:strOfNums [48+(k:Int)]=⟨#[UInt8.ofNat (48+k)]⟩:=by
  unfold strOfNums;have:(48+(k:Int)).toNat=48+k:=sH;simp[this]
 rw[e]
theorem PK {k:Nat}:AG k=Lg k .empty:=by
 unfold AG Lg Lib.itoa;rw[if_neg sH];refine DY ?_;simp
theorem PJ {k:Nat}(h:0<k):AG (-(k:Int))=ByteArray.mk #[45]++AG k:=by
 unfold AG Lib.itoa;rw[if_pos sH,if_neg sH];refine DY ?_;simp[ByteArray.data_append]
theorem FP (k:Nat)(w:World)(h2:k<1000000000000) :
  Calls prog 97 #[.int .i64 k] w fun e w'=>e=.returned (.string (AG k))∧Below w.heap.size w w':=by
 have hc:∀ (u:World) (x:Int),(convert 22 9 (.slice (some ⟨u.heap.size,0,none⟩) 1 1)).run prog (u.alloc (.cells #[.int .u8 x] 5))=.ok (.string (strOfNums [x])) (u.alloc (.cells #[.int .u8 x] 5)):=fun u x=>
  run_convert_bytes_arg (P:=prog) _ 22 5 underlying22 underlying5 u.heap.size 0 1 1 [x] rfl (fun i hi=>(by obtain rfl:i=0:=sH;simp)) 9 underlying9
 obtain⟨R,hR⟩:∃ R,Hid (AG k=R):=⟨_,rfl⟩;rw[hR.out];go_enter func97,ntmps97;go_wp2_with fail;go_loopw [0,3] (fun kk out wr=>∃ (j:Nat) (o:ByteArray),kk=.int .i64 j∧out=.string o∧j<1000000000000∧Hid (∃ m,j<10 ^ m∧o.size+m<=13)∧Hid (R=Lg j o)∧Below w.heap.size w wr) (fun kk _ _=>(intOf kk).toNat)
 case atStart=>exact⟨k,.empty,rfl,rfl,h2,⟨12,sH,sJ⟩,by show _=_;rw[<-hR.out];exact PK,Yg _ _⟩
 case round=>
  obtain⟨j,o,rfl,rfl,hj,hm,hI,hB⟩:=hrel;have ho:o.size<=13:=by obtain⟨m,_,h⟩:=hm.out;omega
  by_cases hlt:10<=j
  ·have hb:¬ 9223372036854775807<(strOfNums [48+(j:Int) % 10]).size+o.size:=by rw[strOfNums_size];simp;omega
   have ha:(10:Int)<=j:=sH;go_wp2;go_roundw
   case rel=>
    refine ⟨j / 10,_,sQ,rfl,sH,?_,?_,hB.alloc hB.size _⟩
    ·obtain⟨m,h3,h4⟩:=hm.out
     cases m with
     |zero=>simp at h3;omega
     |succ m=>exact⟨m,by rw[Nat.pow_succ] at h3;omega,by rw[kX_,strOfNums_size];simp;omega⟩
    ·show _=_;rw[hI.out,Om o hlt]
   case measure=>simp[intOf];omega
  ·have hb:¬ 9223372036854775807<(strOfNums [48+(j:Int)]).size+o.size:=by rw[strOfNums_size];simp;omega
   have ha:¬ (10:Int)<=j:=sH;go_wp2;go_returns;go_light;refine ⟨?_,hB.alloc hB.size _⟩;rw[hI.out,Ol o sH];rfl
theorem Bn (n:Int)(w:World)(h1:-1000000000000<n)(h2:n<1000000000000) :
  Calls prog 97 #[.int .i64 n] w fun e w'=>e=.returned (.string (AG n))∧Below w.heap.size w w':=by
 by_cases h:n<0
 ·obtain⟨k,rfl⟩:∃ k:Nat,n=-(k:Int):=⟨n.natAbs,sH⟩;have hk:0<k:=sH;have hR:Hid (AG (-(k:Int))=ByteArray.mk #[45]++AG k):=PJ hk;generalize AG (-(k:Int))=R at *;have he:=Cq (n:=k) sH sH;have hc:¬ 9223372036854775807<(ByteArray.mk #[45]).size+(AG k).size:=by show ¬ _<1+_;omega
  have hb:-(-(k:Int))=k:=sH;go_enter func97,ntmps97;go_wp2_with fail;refine (FP k w sH).mono ?_;rintro e w1 ⟨rfl,ha⟩;generalize AG (k:Int)=D at *;go_wp2;go_returns;exact⟨rG,ha⟩
 ·obtain⟨k,rfl⟩:∃ k:Nat,n=(k:Int):=⟨n.toNat,sH⟩;exact FP k w sH
end
section
open Go Go.RowKit Go.BigFrame Go.Shelf Tryz
theorem FI {l:List Pt}{k:Nat}{p:Pt}(h:l[k]?=some p):Bf (l.take (k+1))=Bf (l.take k)++Ah (ptW p):=by
 unfold Bf;rw[bx_ h,ZQ];simp
theorem Hw {l:List It}{k:Nat}{x:It}(h:l[k]?=some x):Dq (l.take (k+1))=Dq (l.take k)++itW x:=by
 unfold Dq;rw[bx_ h,ZQ];simp
theorem ER {α:Type}(f:α->List UInt8)(l:List α)(k:Nat):((l.take k).flatMap f).length<=(l.flatMap f).length:=by
 conv=>rhs;rw[<-YM k l,ZQ,ZE]
 omega
theorem Cr {α:Type}{f:α->List UInt8}{l:List α}{k:Nat}{x:α}(h:l[k]?=some x):(l.take (k+1)).flatMap f=(l.take k).flatMap f++f x:=by
 rw[bx_ h,ZQ];simp
theorem Ca {α:Type}{f:α->List UInt8}{P:List UInt8}{l:List α}{k:Nat}{x:α}(h:l[k]?=some x)(hl:(P++l.flatMap f).length<=1000000):(P++(l.take k).flatMap f++f x).length<=1000000:=by
 have h1:=ER f l (k+1);have h2:=congrArg List.length (Cr (f:=f) h);rw[ZE] at h2 hl;rw[ZE,ZE];omega
theorem dJ{p:Prop}(h:p:=by have:=l5.out;rw[ZE] at this;show _<=_;rw[kD.out];omega):p:=h
theorem dK{p:Prop}(h:p:=by have:=l4.out;rw[ZE] at this;show _<=_;rw[kE.out];omega):p:=h
theorem dL{p:Prop}(h:p:=by have:=l3.out;rw[ZE] at this;show _<=_;rw[kF.out];omega):p:=h
theorem AI {a b:ByteArray}(h:(a++b).size<=1000000):¬ 9223372036854775807<a.size+b.size∧a.size<=1000000:=by
 rw[kX_] at h;omega
theorem Ma (b:Bool)(w:World):Calls prog 98 #[.bool b] w fun e w'=>e=.returned (.string (JG b))∧w'=w:=by
 cases b<;>(go_enter func98,ntmps98;go_wp2;go_returns;exact⟨rfl,rfl⟩)
theorem Sb (s word da dv f dn:ByteArray):s++word++⟨#[32]⟩++da++⟨#[32]⟩++dv++⟨#[32]⟩++f++⟨#[32]⟩++dn++⟨#[10]⟩=(⟨(s.data.toList++Ah [word,da,dv,f,dn]).toArray⟩:ByteArray):=by
 refine DY ?_;unfold Ah;simp[Cv,Dv,ByteArray.data_append]
theorem Jz {word:ByteArray}{l:List Ct}{k:Nat}{c:Ct}(h:l[k]?=some c):Bz word (l.take (k+1))=Bz word (l.take k)++Ah (ctL word c):=Cr h
theorem Gu (word:ByteArray)(a:Option Addr)(n cap:Nat)(l:List Ct)(w:World)(h:A8 w a n l)(hn:n<=4194304)(hN:∀ c∈l,Num c.o.a∧Num c.o.v∧Num c.n)(hlen:(Bz word l).length<=1000000) :
  Calls prog 99 #[.string word,.slice a n cap] w fun e w'=>e=.returned (.string ⟨(Bz word l).toArray⟩)∧Below w.heap.size w w':=by
 have ht:Hid (l.length=n):=h.len;obtain⟨R,hR⟩:∃ R,Hid (Bz word l=R):=⟨_,rfl⟩;have hb:=Hid.mk' hlen;rw[hR.out];clear hlen;go_enter func99,ntmps99;go_wp2_with fail;go_loopw [5,6] (fun s ix wr=>∃ (k:Nat) (o:ByteArray),k<=n∧ix=.int .i64 k∧s=.string o∧Hid (o.data.toList=Bz word (l.take k))∧Below w.heap.size w wr) (fun _ ix _=>n-(intOf ix).toNat)
 case atStart=>exact⟨0,.empty,Zg _,rfl,rfl,rfl,Yg _ _⟩
 case round=>
  obtain⟨k,o,hk,rfl,rfl,ho,hB⟩:=hrel;by_cases hlt:k<n
  ·obtain⟨b,q,c,rfl,hc,c0,c1,c2,c3⟩:=aN_ (h.below hB) hlt;obtain⟨⟨na1,na2⟩,⟨nv1,nv2⟩,nn1,nn2⟩:=hN c (Zc hc);have hw:Hid (Bz word (l.take (k+1))=Bz word (l.take k)++Ah (ctL word c)):=Jz hc;have hm:=Ca (P:=[]) (f:=fun c=>Ah (ctL word c)) hc (by simpa [Bz] using hb.out);have hv:o.size=(Bz word (l.take k)).length:=by rw[<-ho.out];rfl
   have he:=Sb o word (AG c.o.a) (AG c.o.v) c.o.f (AG c.n);have hl:=congrArg ByteArray.size he;have hrs:((⟨(o.data.toList++Ah [word,AG c.o.a,AG c.o.v,c.o.f,AG c.n]).toArray⟩:ByteArray)).size<=1000000:=by
    show (o.data.toList++Ah _).toArray.size<=_;rw[YI,ho.out];simpa [Bz,ctL] using hm
   rw[<-hl] at hrs;have ha:Hid (o++word++⟨#[32]⟩++AG c.o.a++⟨#[32]⟩++AG c.o.v++⟨#[32]⟩++c.o.f++⟨#[32]⟩++AG c.n++⟨#[10]⟩=(⟨(o.data.toList++Ah (ctL word c)).toArray⟩:ByteArray)):=he;obtain⟨d1,hf⟩:∃ z,Hid (AG c.o.a=z):=⟨_,rfl⟩;obtain⟨d2,hg⟩:∃ z,Hid (AG c.o.v=z):=⟨_,rfl⟩;obtain⟨d3,hh⟩:∃ z,Hid (AG c.n=z):=⟨_,rfl⟩;have k1:∀ u:World,Calls prog 97 #[.int .i64 c.o.a] u fun e w'=>e=.returned (.string d1)∧Below u.heap.size u w':=fun u=>by rw[<-hf.out];exact Bn c.o.a u na1 na2
   have k2:∀ u:World,Calls prog 97 #[.int .i64 c.o.v] u fun e w'=>e=.returned (.string d2)∧Below u.heap.size u w':=fun u=>by rw[<-hg.out];exact Bn c.o.v u nv1 nv2
   have k3:∀ u:World,Calls prog 97 #[.int .i64 c.n] u fun e w'=>e=.returned (.string d3)∧Below u.heap.size u w':=fun u=>by rw[<-hh.out];exact Bn c.n u nn1 nn2
   rw[hf.out,hg.out,hh.out] at hrs;unfold Hid at ha;rw[hf.out,hg.out,hh.out] at ha;obtain⟨o',hp⟩:∃ z,Hid (z=(⟨(o.data.toList++Ah (ctL word c)).toArray⟩:ByteArray)):=⟨_,rfl⟩;replace ha:Hid (_=o'):=ha.trans hp.out.symm;obtain⟨ff,hs⟩:∃ z,c.o.f=z:=⟨_,rfl⟩;rw[hs] at hrs ha c2;clear he hl hm hv hw;replace hrs:(o++word++⟨#[32]⟩++d1++⟨#[32]⟩++d2++⟨#[32]⟩++ff++⟨#[32]⟩++d3++⟨#[10]⟩).size<=1000000:=hrs;obtain⟨e10,hrs⟩:=AI hrs;obtain⟨e9,hrs⟩:=AI hrs;obtain⟨e8,hrs⟩:=AI hrs;obtain⟨e7,hrs⟩:=AI hrs;obtain⟨e6,hrs⟩:=AI hrs;obtain⟨e5,hrs⟩:=AI hrs;obtain⟨e4,hrs⟩:=AI hrs;obtain⟨e3,hrs⟩:=AI hrs;obtain⟨e2,hrs⟩:=AI hrs;obtain⟨e1,hrs⟩:=AI hrs;have hj:(k:Int)<n:=sH;have q0:=Ad c0;have q1:=Ad c1;have q2:=Ad c2;have q3:=Ad c3;go_wp2_with fail;refine ab_ sI sI ?_;have hx:=aA_ wr;iterate 11 (go_big_quiet_step (first | (go_at_call 97;exact an_ (k1 _))))
   iterate 9 (go_big_quiet_step (first | (go_at_call 97;exact an_ (k2 _))))
   iterate 19 (go_big_quiet_step (first | (go_at_call 97;exact an_ (k3 _))))
   refine wpQuiet_nil ?_;intro w2 hq;have hr:=Aa hB (ah_ hq);clear hq;go_wp2;go_roundw
   case rel=>
    refine ⟨k+1,_,sH,sQ,rfl,?_,hr⟩;show _=_;rw[ha.out,hp.out,Jz hc,<-ho.out]
   case measure=>simp[intOf];omega
  ·obtain rfl:k=n:=sH;have hj:¬ (k:Int)<k:=sH;go_wp2;go_returns;rw[Zk (by rw[ht.out];exact Zd _),hR.out] at ho;have hu:o=⟨R.toArray⟩:=DY (by simpa using ho.out);subst hu;exact⟨rfl,hB⟩
theorem F8 {o n:ByteArray}{W P:List UInt8}(hn:n=⟨(o.data.toList++W).toArray⟩)(ho:o.data.toList=P):n.data.toList=P++W:=by
 rw[hn,<-ho]
theorem fB{p:Prop}(h:p:=by show _=_;omega):p:=h
end
end Go.Proofs.YteejlahappbalaaGreatDoor
