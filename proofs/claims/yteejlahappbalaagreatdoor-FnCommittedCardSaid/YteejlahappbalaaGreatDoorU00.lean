/- Plain functions over lists, and what it says that a slice in memory holds a list: the ground of this seat's proofs. -/
import Derived.Handy
import Derived.Deep.Light
import Derived.Deep.RegionHeld3
import Derived.BigQuiet
import Derived.WalkSmall
import Derived.Lib.AppendZerosOnto
import Derived.Deep.RegionLaw
import Derived.Laws.AppendOwnNone
import Derived.Laws.Cover1
import Derived.Test.YteejlahappbalaaGreatDoorProg
set_option maxHeartbeats 20000000
set_option maxRecDepth 100000
namespace Go.Proofs.YteejlahappbalaaGreatDoor
section
open Go Go.RowKit
abbrev Za:=@Array.getElem?_setIfInBounds_ne
abbrev Zb:=@List.getElem?_eq_some_iff
abbrev Zc:=@List.mem_of_getElem?
abbrev Zd:=@Nat.le_refl
abbrev Ze:=@List.drop_of_length_le
abbrev Zf:=@Bool.and_eq_true
abbrev Zg:=@Nat.zero_le
abbrev Zi:=@Option.some.inj
abbrev Zj:=@Bool.false_eq_true
abbrev Zk:=@List.take_of_length_le
abbrev Zl:=@Nat.le_trans
abbrev Zm:=@Nat.le_of_eq
abbrev Zn:=@List.mem_cons
abbrev Zo:=@Option.some.injEq
abbrev Zp:=@Bool.true_and
abbrev Zq:=@Nat.zero_add
abbrev Zr:=@Bool.false_and
abbrev Zs:=@List.mem_append
abbrev Zt:=@List.eq_nil_of_length_eq_zero
abbrev Zu:=@ByteArray.toList_eq
abbrev Zv:=@List.getElem?_append_right
abbrev Zw:=@List.length_cons
abbrev Zx:=@List.getElem?_set_self
abbrev Zy:=@Nat.lt_of_lt_of_le
abbrev Zz:=@List.length_take
abbrev ZA:=@List.findIdx?_eq_some_iff_getElem
abbrev ZB:=@Nat.lt_succ_self
abbrev ZC:=@List.append_assoc
abbrev ZD:=@List.getElem?_append_left
abbrev ZE:=@List.length_append
abbrev ZF:=@List.flatMap_cons
abbrev ZG:=@Array.getElem?_eq_some_iff
abbrev ZH:=@List.filter_cons
abbrev ZI:=@List.getElem?_eq_getElem
abbrev ZJ:=@List.getElem?_set_ne
abbrev ZK:=@List.take_add_one
abbrev ZL:=@List.mem_flatMap
abbrev ZM:=@List.nil_append
abbrev ZN:=@List.any_eq_true
abbrev ZO:=@Bool.and_assoc
abbrev ZP:=@List.take_succ_cons
abbrev ZQ:=@List.flatMap_append
abbrev ZR:=@List.drop_succ_cons
abbrev ZS:=@Nat.mul_le_mul_right
abbrev ZT:=@List.mem_map
abbrev ZU:=@decide_eq_true_eq
abbrev ZV:=@beq_eq_false_iff_ne
abbrev ZW:=@Option.map_eq_some_iff
abbrev ZX:=@List.mem_of_mem_take
abbrev ZY:=@List.mem_cons_of_mem
abbrev ZZ:=@Nat.min_eq_left
abbrev Ya:=@List.getElem?_take_of_lt
abbrev Yb:=@List.pairwise_iff_getElem
abbrev Yc:=@List.length_filter_le
abbrev Yd:=@Nat.add_mul
abbrev Ye:=@List.pairwise_cons
abbrev Yf:=@List.nodup_append
abbrev Yg:=@Below.refl
abbrev Yh:=@World.grownBy.refl
abbrev Yi:=@Below.grown
abbrev Yj:=@List.setIfInBounds_toArray
abbrev Yk:=@World.block_lt_of_cell?
abbrev Yl:=@World.grownBy_alloc
abbrev Ym:=@List.mem_append_right
abbrev Yo:=@List.getElem?_cons_zero
abbrev Yp:=@List.getElem?_toArray
abbrev Yq:=@List.set_cons_zero
abbrev Yr:=@List.set_cons_succ
abbrev Ys:=@IntKind.wrap_i64
abbrev Yt:=@List.getElem?_cons_succ
abbrev Yu:=@List.mem_append_left
abbrev Yv:=@World.cell?_alloc_new
abbrev Yw:=@Option.getD_some
abbrev Yx:=@List.take_zero
abbrev Yy:=@List.append_nil
abbrev Yz:=@WalkArith.wf_i64
abbrev YA:=@List.filter_eq_self
abbrev YB:=@Int.le_refl
abbrev YC:=@List.drop_zero
abbrev YD:=@List.map_cons
abbrev YE:=@List.foldl_cons
abbrev YF:=@List.cons_append
abbrev YG:=@List.mem_filter
abbrev YH:=@Bool.eq_iff_iff
abbrev YI:=@List.size_toArray
abbrev YJ:=@Oper.semAt_some
abbrev YK:=@List.length_nil
abbrev YL:=@List.findIdx?_eq_none_iff
abbrev YM:=@List.take_append_drop
abbrev YN:=@World.size_alloc
abbrev YO:=@Option.bind_some
abbrev YP:=@List.mem_singleton
abbrev YQ:=@List.mem_filterMap
abbrev YR:=@List.filter_append
abbrev YS:=@List.getElem_of_mem
abbrev YT:=@List.Pairwise.nil
abbrev YU:=@decide_eq_false_iff_not
abbrev YV:=@decide_eq_false
abbrev YW:=@bodyPost_ret
abbrev YX:=@run_callFunc_extern
abbrev YY:=@run_underlying
end
section
open Go Go.RowKit
variable{n:Nat}{a:Option Addr}
structure Pt where
 a:Int
 f:Int
 n:Int
def Pt.cs (p:Pt):List Value:=[.int .i64 p.a,.int .i64 p.f,.int .i64 p.n]
structure Ex where
 a:Int
 d:ByteArray
def Ex.cs (p:Ex):List Value:=[.int .i64 p.a,.string p.d]
end
section
open Go Go.RowKit
variable{α:Type}{b i n o sz:Nat}{a:Option Addr}{v:Value}{w:World}{l:List α}
variable{cs:α->List Value}
structure AH {α:Type}(cs:α->List Value)(sz:Nat)(w:World)(a:Option Addr)(n:Nat)(l:List α):Prop where
 len:l.length=n
 cell:∀ i x,l[i]?=some x->∃ b o,a=some ⟨b,o,none⟩∧∀ j v,(cs x)[j]?=some v->w.cell? ⟨b,o+i*sz+j,none⟩=some v
abbrev BH:=AH Pt.cs 3
abbrev Cg:=AH Ex.cs 2
abbrev Hi:=AH (fun x:Int=>[Value.int .i64 x]) 1
theorem sK{p:Prop}(h:p:=by simp):p:=h
end
section
open Go.RowKit Go.Lib
theorem sH{p:Prop}(h:p:=by omega):p:=h
end
section
open Go Go.RowKit Tryz
variable{c:Array Value}{b:Nat}{t:TypeId}{w:World}
theorem rv{p:Prop}(h:p:=by simp[hx]):p:=h
def Blk (w:World)(b:Nat)(c:Array Value)(t:TypeId):Prop:=w.heap[b]?=some (.cells c t)
theorem Blk.lt (h:Blk w b c t):b<w.heap.size:=(ZG.1 h).1
theorem Blk.cell (h:Blk w b c t)(i:Nat):w.cell? ⟨b,i,none⟩=c[i]?:=by
 unfold Blk at h;simp[World.cell?,h]
theorem Blk.has (h:Blk w b c t){i:Nat}(hi:i<c.size):∃ v,w.cell? ⟨b,i,none⟩=some v:=⟨c[i],by rw[h.cell];simp[hi]⟩
end
section
open Go Go.RowKit Go.BigFrame Tryz
variable{l:List Ex}
def Strs (l:List Ex):Prop:=∀ e∈l,e.d.size<=9223372036854775807
end
section
open Go Go.RowKit
variable{α:Type}{B b cap n sz:Nat}{a:Option Addr}{t:TypeId}{w:World}{l:List α}{cs:α->List Value}
structure Ac {α:Type}(cs:α->List Value)(sz:Nat)(t:TypeId)(w:World)(B:Nat)(a:Option Addr)(n cap:Nat)(l:List α):Prop where
 sl:AH cs sz w a n l
 own:(a=none∧n=0∧cap=0)∨∃ b,a=some ⟨b,0,none⟩∧B<=b∧n<=cap∧cap<=maxLen∧∃ c,Blk w b c t∧c.size=cap*sz∧c.toList.take (n*sz)=l.flatMap cs
theorem Ac.block (h:Ac cs sz t w B a n cap l):∀ ad,a=some ad->B<=ad.block∧ad.block<w.heap.size:=by
 intro ad ha;rcases h.own with⟨rfl,_⟩ | ⟨b,rfl,hB,_,_,c,hc,_⟩
 ·cases ha
 ·cases ha;exact⟨hB,hc.lt⟩
end
section
open Go Go.RowKit
structure Ow where
 a:Int
 v:Int
 f:ByteArray
end
section
open Go Go.RowKit
variable{a b:Ow}
structure Ct where
 o:Ow
 n:Int
def Ow.vs (o:Ow):Array Value:=#[.int .i64 o.a,.int .i64 o.v,.string o.f]
def Ct.cs (c:Ct):List Value:=[.int .i64 c.o.a,.int .i64 c.o.v,.string c.o.f,.int .i64 c.n]
abbrev A8:=AH Ct.cs 4
abbrev bl:=Op.bytesLess
theorem jV_ {x y:ByteArray}(h:x.toList=y.toList):x=y:=by
 rw[Zu,Zu] at h
 cases x;cases y;congr 1;exact Array.toList_inj.1 h
def Cn (a b:Ow):Bool:=a.a==b.a&&a.v==b.v&&a.f.toList==b.f.toList
theorem aM_:Cn a b=true↔a=b:=by
 constructor
 ·intro h;simp[Cn] at h;obtain⟨⟨h1,h2⟩,h3⟩:=h
  cases a;cases b;simp at *;exact⟨h1,h2,jV_ h3⟩
 ·rintro rfl;simp[Cn]
theorem sJ{p:Prop}(h:p:=by decide):p:=h
end
section
open Go Go.RowKit
theorem rR{p:Prop}(h:p:=by simpa using h1):p:=h
end
section
open Go Go.RowKit
variable{α:Type}{n:Nat}{a:Option Addr}{l:List α}
def Al (p:Pt):Bool:=if p.a==0 then p.f==0&&decide (1<=p.n) else decide (1<=p.a)&&decide (p.a<=400)&&decide (0<=p.f)&&decide (p.f<20)&&decide (1<=p.n)&&decide (p.n<=20-p.f)
def Bd (p q:Pt):Bool:=q.a==p.a&&(q.a==0||q.f==wrap64 (p.f+p.n))
def pgo:Option Pt->Int->List Pt->Bool
 |_,_,[]=>true
 |none,left,p::r=>Al p&&decide (p.n<=left)&&pgo (some p) (left-p.n) r
 |some q,left,p::r=>Al p&&decide (p.n<=left)&&!Bd q p&&pgo (some p) (left-p.n) r
def Ae (l:List Pt):Bool:=decide (l.length<=16)&&pgo none 100 l
theorem av_ {p:Pt}(h:Al p=true):1<=p.n:=by
 unfold Al at h;split at h<;>simp at h<;>omega
end
section
open Go.RowKit Go.Lib
def zs (k:Nat):ByteArray:=⟨(List.replicate k (0:UInt8)).toArray⟩
end
section
open Go Go.RowKit Go.BigFrame Tryz
variable{l:List Ex}
def HM (c:UInt8):Bool:=decide (32<=(c.toNat:Int))&&decide ((c.toNat:Int)<=126)
def plainB (d:ByteArray):Bool:=d.data.toList.all HM
def At (d:ByteArray):Bool:=decide (1<=d.size)&&decide (d.size<=20)&&plainB d
def xgo (size:Int):Int->List Ex->Bool
 |_,[]=>true
 |next,e::r=>At e.d&&decide (next<=e.a)&&decide (e.a<=size+1-e.d.size)&&xgo size (e.a+e.d.size) r
def Af (size:Int)(l:List Ex):Bool:=decide (1<=size)&&decide (size<=400)&&decide (l.length<=60)&&xgo size 1 l
end
section
open Go Go.RowKit Go.BigFrame Tryz
def AU (addr:Int):List Ex->ByteArray
 |[]=>⟨#[]⟩
 |e::r=>if e.a==addr then e.d else AU addr r
def pieceO (e:List Ex)(p:Pt):Option ByteArray:=
 if p.a==0 then some (zs p.n.toNat) else if ((AU p.a e).size:Int)<p.f+p.n then none else some ((AU p.a e).extract p.f.toNat (p.f+p.n).toNat)
def cgo (e:List Ex):ByteArray->List Pt->Option ByteArray
 |acc,[]=>some acc
 |acc,p::r=>match pieceO e p with
  |none=>none
  |some d=>cgo e (acc++d) r
def Ax (l:List Pt)(e:List Ex):Option ByteArray:=if Ae l=true∧Af 400 e=true then cgo e ⟨#[]⟩ l else none
theorem jR_:∀ {l:List Pt} {q:Option Pt} {left:Int},pgo q left l=true->left<=100->∀ p∈l,Al p=true∧p.n<=100
 |[],_,_,_,_=>by simp
 |p::r,q,left,h,hl=>by
  have h2:Al p=true∧p.n<=left∧pgo (some p) (left-p.n) r=true:=by
   cases q
   ·simp only[pgo,Zf,ZU] at h;exact⟨h.1.1,h.1.2,h.2⟩
   ·simp only[pgo,Zf,ZU] at h;exact⟨h.1.1.1,h.1.1.2,h.2⟩
  intro x hx;rcases Zn.1 hx with rfl | hx
  ·exact⟨h2.1,sH⟩
  ·exact jR_ h2.2.2 (by have:=av_ h2.1;omega) x hx
theorem rN{p:Prop}(h:p:=by simp[hy]):p:=h
end
section
open Go Go.RowKit
variable{a b:Ow}
def Bl (a b:Ow):Bool:=if a.a≠b.a then decide (a.a<b.a) else if a.v≠b.v then decide (a.v<b.v) else bl a.f.toList b.f.toList
end
section
open Go Go.RowKit
theorem ac_ {x y:Bool}(h:x=y):Ending.returned (.bool x)=.returned (.bool y):=by rw[h]
end
section
open Go Go.RowKit
variable{α:Type}{b i:Nat}{a:Option Addr}{l:List α}
theorem lsA {α:Type _}{a:List α}{x:α}:a.toArray.setIfInBounds i x=(a.set i x).toArray:=Yj ..
theorem lsB {α:Type _}{a b:α}{l:List α}:(a::l).set 0 b=b::l:=Yq ..
theorem lsC {α:Type _}{a b:α}{l:List α}:(a::l).set (i+1) b=a::l.set i b:=Yr ..
end
section
open Go Go.RowKit
variable{α:Type}{b i k n o sz:Nat}{a:Option Addr}{v:Value}{W w w' w1:World}{l:List α}
variable{cs:α->List Value}
theorem Ab (hb:Below W.heap.size W w1)(h:W.cell? ⟨b,o,none⟩=some v):w1.cell? ⟨b,o,none⟩=some v:=by
 rw[hb.cell (p:=⟨b,o,none⟩) (Yk W _ h)];exact h
theorem AH.below (h:AH cs sz w a n l)(hb:Below w.heap.size w w'):AH cs sz w' a n l:=
 ⟨h.len,fun i x hx=>by
  obtain⟨b,o,ha,hc⟩:=h.cell i x hx;exact⟨b,o,ha,fun j v hv=>Ab hb (hc j v hv)⟩⟩
theorem AH.alloc (h:AH cs sz w a n l)(x:Obj):AH cs sz (w.alloc x) a n l:=
 h.below ((Yg _ _).alloc (Zd _) _)
theorem AH.drew (h:AH cs sz w a n l):AH cs sz w.drew a n l:=
 h.below ((Yg _ _).drew)
def ahead (l:List Pt)(k:Nat):Option Pt:=if k=0 then none else l[k-1]?
end
section
open Go Go.RowKit Tryz
variable{α:Type}{c:Array Value}{b n r sz:Nat}{t:TypeId}{w w':World}{l:List α}{cs:α->List Value}
theorem sM{p:Prop}(h:p:=by go_grown):p:=h
theorem sQ{p:Prop}(h:p:=by go_num):p:=h
theorem Blk.frozen (h:Blk w b c t)(i:Nat):w.frozen? ⟨b,i,none⟩=false:=by
 unfold Blk at h;simp[World.frozen?,h]
theorem Blk.new (w:World)(c:Array Value)(t:TypeId):Blk (w.alloc (.cells c t)) w.heap.size c t:=heap_alloc_new w _
theorem Blk.below (h:Blk w b c t)(hb:Below w.heap.size w w'):Blk w' b c t:=by
 unfold Blk;rw[hb.block b h.lt];exact h
theorem Blk.grown (h:Blk w b c t)(hg:w.grownBy w' (some r))(hr:b≠r):Blk w' b c t:=by
 unfold Blk;rw[hg.block b h.lt (by simpa using hr)];exact h
theorem Blk.alloc (h:Blk w b c t)(o:Obj):Blk (w.alloc o) b c t:=h.below ((Yg _ _).alloc (Zd _) _)
theorem Blk.drew (h:Blk w b c t):Blk w.drew b c t:=h
theorem AH.grown {a:Option Addr}(h:AH cs sz w a n l)(hg:w.grownBy w' (some r))(hr:∀ ad,a=some ad->ad.block≠r):AH cs sz w' a n l:=
 ⟨h.len,fun i x hx=>by
  obtain⟨b,o,ha,hc⟩:=h.cell i x hx;exact⟨b,o,ha,fun j v hv=>hg.cell (hc j v hv) (by have:=hr _ ha;simpa using this)⟩⟩
end
section
open Go Go.RowKit
variable{α:Type}{B b cap n sz:Nat}{o:Oper}{a:Option Addr}{t:TypeId}{w w':World}{l:List α}{cs:α->List Value}
theorem Ac.below (h:Ac cs sz t w B a n cap l)(hb:Below w.heap.size w w'):Ac cs sz t w' B a n cap l:=by
 refine⟨h.sl.below hb,?_⟩;rcases h.own with h0 | ⟨b,ha,hB,h1,h2,c,hc,q⟩
 ·exact .inl h0
 ·exact .inr ⟨b,ha,hB,h1,h2,c,hc.below hb,q⟩
theorem Ac.mono {B':Nat}(h:Ac cs sz t w B a n cap l)(hb:B'<=B):Ac cs sz t w B' a n cap l:=by
 refine⟨h.sl,?_⟩;rcases h.own with h0 | ⟨b,ha,hB,q⟩
 ·exact .inl h0
 ·exact .inr ⟨b,ha,sH,q⟩
theorem Ac.grown {r:Nat}(h:Ac cs sz t w B a n cap l)(hg:w.grownBy w' (some r))(hr:∀ ad,a=some ad->ad.block≠r):Ac cs sz t w' B a n cap l:=by
 refine⟨h.sl.grown hg hr,?_⟩;rcases h.own with h0 | ⟨b,ha,hB,h1,h2,c,hc,q⟩
 ·exact .inl h0
 ·exact .inr ⟨b,ha,hB,h1,h2,c,hc.grown hg (hr _ ha),q⟩
theorem Ac.alloc (h:Ac cs sz t w B a n cap l)(o:Obj):Ac cs sz t (w.alloc o) B a n cap l:=h.below ((Yg _ _).alloc (Zd _) _)
theorem Blk.new' (w:World)(c:Array Value)(t:TypeId)(b:Nat)(hb:b=w.heap.size):Blk (w.alloc (.cells c t)) b c t:=by subst hb;exact Blk.new _ _ _
end
section
open Go Go.RowKit
variable{a b:Ow}
theorem cn_:∀ x:List UInt8,bl x x=false
 |[]=>rfl
 |a::x=>by simp[bl,Op.bytesLess];exact cn_ x
theorem jT_:∀ {x y:List UInt8},bl x y=false->x≠y->bl y x=true
 |[],[],_,h=>absurd rfl h
 |[],b::y,h,_=>by simp[bl,Op.bytesLess] at h
 |a::x,[],_,_=>rfl
 |a::x,b::y,h,hne=>by
  simp only[bl,Op.bytesLess,Bool.or_eq_false_iff,Bool.and_eq_false_iff,YU] at h;obtain⟨h1,h2⟩:=h;simp only[bl,Op.bytesLess,Bool.or_eq_true,Zf,ZU,beq_iff_eq];by_cases hab:a=b
  ·subst hab;right;refine⟨rfl,jT_ (h2.resolve_left sK) (fun e=>hne (by rw[e]))⟩
  ·left;have ha:b.toNat<=a.toNat:=by simpa[UInt8.lt_iff_toNat_lt] using h1
   have:a.toNat≠b.toNat:=fun e=>hab (UInt8.toNat_inj.1 e)
   rw[UInt8.lt_iff_toNat_lt];omega
theorem jU_:∀ {x y:List UInt8},bl x y=true->bl y x=false
 |[],[],h=>by simp[bl,Op.bytesLess] at h
 |[],b::y,_=>rfl
 |a::x,[],h=>by simp[bl,Op.bytesLess] at h
 |a::x,b::y,h=>by
  simp only[bl,Op.bytesLess,Bool.or_eq_true,Zf,ZU,beq_iff_eq] at h;simp only[bl,Op.bytesLess,Bool.or_eq_false_iff,Bool.and_eq_false_iff,YU,ZV];rcases h with h | ⟨rfl,h⟩
  ·have h':=UInt8.lt_iff_toNat_lt.1 h;refine⟨fun k=>by have:=UInt8.lt_iff_toNat_lt.1 k;omega,.inl fun e=>by subst e;omega⟩
  ·exact⟨fun k=>by have:=UInt8.lt_iff_toNat_lt.1 k;omega,.inr (jU_ h)⟩
theorem hl_:∀ {x y z:List UInt8},bl x y=true->bl y z=true->bl x z=true
 |[],[],_,h,_=>by simp[bl,Op.bytesLess] at h
 |[],b::y,[],_,h=>by simp[bl,Op.bytesLess] at h
 |[],b::y,c::z,_,_=>rfl
 |a::x,[],_,h,_=>by simp[bl,Op.bytesLess] at h
 |a::x,b::y,[],_,h=>by simp[bl,Op.bytesLess] at h
 |a::x,b::y,c::z,h1,h2=>by
  simp only[bl,Op.bytesLess,Bool.or_eq_true,Zf,ZU,beq_iff_eq,UInt8.lt_iff_toNat_lt] at *;rcases h1 with h1 | ⟨rfl,h1⟩
  ·rcases h2 with h2 | ⟨rfl,h2⟩
   ·left;omega
   ·left;exact h1
  ·rcases h2 with h2 | ⟨rfl,h2⟩
   ·left;exact h2
   ·right;exact⟨rfl,hl_ h1 h2⟩
end
section
open Go Go.RowKit
variable{n:Nat}{w:World}
theorem Bj (w:World)(n:Nat):Below w.heap.size w (w.drewN n):=below_drewN (Yg _ _) n
end
section
open Go.RowKit Go.Lib
theorem rj{p:Prop}(h:p:=by rw[Ys];omega):p:=h
end
section
open Go Go.RowKit
theorem sP{p:Prop}(h:p:=by simpa using h):p:=h
theorem oA{p:Prop}(h:p:=by simp[hl]):p:=h
end
section
open Go Go.RowKit
variable{α:Type}{K:Act->World->Prop}{ops:Array Oper}{Q:Exit->Act->World->Prop}{B b cap n sz:Nat}{o:Oper}{a:Option Addr}{P:Program}{t:TypeId}{w w':World}{l:List α}{cs:α->List Value}
theorem aY_ (hsz:∀ x,(cs x).length=sz)(l:List α):(l.flatMap cs).length=l.length*sz:=by
 induction l with
 |nil=>simp
 |cons x r ih=>simp[ih,hsz,Yd];omega
theorem i5_ (hsz:∀ x,(cs x).length=sz)(l:List α):∀ {i j:Nat} {x:α} {v:Value},l[i]?=some x->(cs x)[j]?=some v->(l.flatMap cs)[i*sz+j]?=some v:=by
 induction l with
 |nil=>intro i j x v h;simp at h
 |cons y r ih=>
  intro i j x v hx hv;have hj:j<sz:=by have:=(Zb.1 hv).1;rw[hsz] at this;exact this
  rw[ZF]
  cases i with
  |zero=>
   simp at hx;subst hx;rw[Nat.zero_mul,Zq,ZD (by rw[hsz];exact hj)];exact hv
  |succ i=>
   simp at hx;rw[Zv (by rw[hsz,Yd];omega),hsz];have e:(i+1)*sz+j-sz=i*sz+j:=by rw[Yd];omega
   rw[e];exact ih hx hv
theorem nY_ (hsz:∀ x,(cs x).length=sz)(l:List α):∀ {t:Nat} {v:Value},(l.flatMap cs)[t]?=some v->∃ i x j,l[i]?=some x∧(cs x)[j]?=some v∧t=i*sz+j:=by
 induction l with
 |nil=>intro t v h;simp at h
 |cons y r ih=>
  intro t v h;rw[ZF] at h;by_cases ht:t<sz
  ·rw[ZD (by rw[hsz];exact ht)] at h;exact⟨0,y,t,rfl,h,sH⟩
  ·rw[Zv (by rw[hsz];omega),hsz] at h;obtain⟨i,x,j,h1,h2,h3⟩:=ih h;exact⟨i+1,x,j,rR,h2,by rw[Yd];omega⟩
theorem dp{p:Prop}(h:p:=by simpa using ha):p:=h
theorem AH.src (hsz:∀ x,(cs x).length=sz){o:Nat}(h:AH cs sz w (some ⟨b,o,none⟩) n l):
  ∀ j u,(l.flatMap cs)[j]?=some u->w.cell? ((⟨b,o,none⟩:Addr).add j)=some u:=by
 intro t u hu;obtain⟨i,x,j,h1,h2,rfl⟩:=nY_ hsz l hu;obtain⟨b',o',ha,hc⟩:=h.cell i x h1;obtain⟨rfl,rfl⟩:b=b'∧o=o':=dp;rw[Addr.add_lit,<-Nat.add_assoc];exact hc j u h2
theorem Ac.row (hsz:∀ x,(cs x).length=sz)(h:Ac cs sz t w B a n cap l):w.ownsRow B t sz (.slice a n cap) n (l.flatMap cs):=by
 refine⟨by rw[aY_ hsz,h.sl.len],?_⟩;rcases h.own with⟨rfl,rfl,rfl⟩ | ⟨b,rfl,hB,h1,h2,c,hc,hs,ht⟩
 ·exact .inl ⟨rfl,rfl⟩
 ·exact .inr ⟨b,cap,c,rfl,hB,hc,h1,h2,hs,ht⟩
theorem bz_ (hsz:∀ x,(cs x).length=sz){v:Value}(hn:l.length=n)(h:w.ownsRow B t sz v n (l.flatMap cs)):
  ∃ a cap,v=.slice a n cap∧Ac cs sz t w B a n cap l:=by
 obtain⟨_,h⟩:=h;rcases h with⟨rfl,rfl⟩ | ⟨g,cap,cur,rfl,hB,hh,h1,h2,hs,ht⟩
 ·exact⟨none,0,rfl,⟨hn,fun i x hx=>by rw[Zt hn] at hx;simp at hx⟩,.inl ⟨rfl,rfl,rfl⟩⟩
 ·refine⟨some ⟨g,0,none⟩,cap,rfl,⟨hn,fun i x hx=>⟨g,0,rfl,fun j u hu=>?_⟩⟩,.inr ⟨g,rfl,hB,h1,h2,cur,hh,hs,ht⟩⟩;have hb:Blk w g cur t:=hh;rw[hb.cell,Zq];have hf:=i5_ hsz l hx hu;rw[<-ht] at hf;have ha:i*sz+j<n*sz:=by
   have:=(Zb.1 hf).1;simp at this;omega
  rw[Ya ha] at hf;simpa using hf
theorem mm{p:Prop}(h:p:=by
 cases ls with
 |nil=>rw[<-hsrc.len];rfl
 |cons y r=>obtain⟨b,o',hb,_⟩:=hsrc.cell 0 y rfl;cases hb):p:=h
theorem oh{p:Prop}(h:p:=by rw[aY_ hsz,hsrc.len]):p:=h
theorem oN{p:Prop}(h:p:=by rw[ZE,hd.sl.len,hsrc.len]):p:=h
theorem ay_ {size:Nat}{a:Act}
  (s x:Operand)(t:TypeId)(ho:o.op=.call {callee:=.builtin .append,args:=#[s,x],argTypes:=#[t,t]})
  (B:Nat)(e:TypeId)(i:TypeInfo)(z:Value)(bytes:Nat)(ht:P.underlying t=some (.slice e))(hi:P.info? e=some i)(hz:i.zero=some z)(hsize:i.size=size)(hby:i.bytes=bytes)(hzs:z.cells.size=size)(hpos:0<size)
  (hsz:∀ y,(cs y).length=size)(hone:∀ (l:List α),∀ u∈l.flatMap cs,u.oneCell'=true)
  (da:Option Addr)(dn dcap:Nat)(ld:List α)(hs:a.eval s=.slice da dn dcap)(hd:Ac cs size e w B da dn dcap ld)
  (sa:Option Addr)(sn scap:Nat)(ls:List α)(hx:a.eval x=.slice sa sn scap)(hsrc:AH cs size w sa sn ls)(hspot:∀ ad,sa=some ad->ad.spot=none)(hnone:sa=none->scap=0)
  (tot:Nat)(htot:dn+sn=tot)(h63:tot<=maxLen)(hbytes:tot*bytes<=140737488355328)(hbase:B<=w.heap.size)
  (h:∀ a' cap' w',Ac cs size e w' B a' tot cap' (ld++ls)->w.grownBy w' (Value.ownBlock (.slice da dn dcap))->K (a.put o.dst (.slice a' tot cap')) w'):o.wp P a w K Q:=by
 subst htot;have hc:=hd.row hsz;have he:(ld++ls).length=dn+sn:=oN
 cases sa with
 |none=>
  have h0:sn=0:=by
   exact mm
  obtain rfl:=h0;obtain rfl:=hnone rfl;have hj:ls=[]:=Zt hsrc.len;subst hj;have hh:=run_append_owned_none (P:=P) w B t o.type e i size ht hi (.slice da dn dcap) dn (ld.flatMap cs) hc;unfold Oper.wp;simp[execOp,ho,resolve,invoke,builtin,hs,hx,hh,Result.andThen];exact h da dcap w (by simpa using hd) (Yh _ _)
 |some ad=>
  obtain⟨b,off,spot⟩:=ad;have:=hspot _ rfl;simp only at this;subst this;refine wp_append_own w s x t ho B e i z size bytes ht hi hz hsize hby hzs hpos (.slice da dn dcap) dn (ld.flatMap cs) hs hc ⟨b,off,none⟩ sn scap (ls.flatMap cs) hx oh (AH.src hsz hsrc) (hone ls) h63 hbytes hbase ?_;intro v' w' ha hg _;rw[<-ZQ] at ha;obtain⟨a',cap',rfl,hf⟩:=bz_ hsz he ha;exact h a' cap' w' hf hg
theorem ag_ {rest:List Oper}{a:Act}(hg:o.guard=none)
  (h:∀ K:Act->World->Prop,(∀ a w,wpList P ops Q rest a w->K a w)->o.wp P a w K Q):wpList P ops Q (o::rest) a w:=wpList_plain hg h
theorem aB_:Ac cs sz t w B none 0 0 ([]:List α):=
 ⟨⟨rfl,fun i x hx=>by simp at hx⟩,.inl ⟨rfl,rfl,rfl⟩⟩
theorem mN{p:Prop}(h:p:=by
 cases a with
 |none=>simp[Value.ownBlock]
 |some ad=>have:=h ad rfl;simp[Value.ownBlock];omega):p:=h
theorem pB{p:Prop}(h:p:=by
 intro k hk
 cases a with
 |none=>simp[Value.ownBlock] at hk
 |some ad=>have:=h ad rfl;simp[Value.ownBlock] at hk;omega):p:=h
theorem aG_ (h:∀ ad,a=some ad->B<=ad.block):∀ k,Value.ownBlock (.slice a n cap)=some k->B<=k:=by
 exact pB
end
section
open Go Go.RowKit Tryz
variable{c:Array Value}{b k:Nat}{t:TypeId}{w w0:World}
theorem Blk.set (h:Blk w b c t)(i:Nat)(v:Value):Blk (w.setCell ⟨b,i,none⟩ v) b (c.setIfInBounds i v) t:=by
 unfold Blk at *;simp[World.setCell,Array.getElem?_modify,h]
theorem af_ (h:w0.grownBy w (some b))(i:Nat)(v:Value):w0.grownBy (w.setCell ⟨b,i,none⟩ v) (some b):=
 ⟨h.os,h.tape,h.output,by simpa[World.setCell] using h.size,fun k hk ha=>by
  rw[Below.heap_setCell _ _ _ _ (by simpa using ha)];exact h.block k hk ha⟩
end
section
open Go Go.RowKit
variable{α:Type}{args:Array Value}{b k n o:Nat}{a:Option Addr}{P:Program}{v:Value}{W w w' w1:World}{l:List α}
theorem Aj (x:Obj)(h:w.cell? ⟨b,o,none⟩=some v):(w.alloc x).cell? ⟨b,o,none⟩=some v:=by
 rw[World.cell?_alloc_lt _ _ _ (Yk w _ h)];exact h
theorem rB{p:Prop}(h:p:=by rw[h.len];exact hk):p:=h
theorem bi_ {l:List Pt}(h:BH w a n l)(hk:k<n):
  ∃ b o p,a=some ⟨b,o,none⟩∧l[k]?=some p∧w.cell? ⟨b,o+k*3,none⟩=some (.int .i64 p.a)∧w.cell? ⟨b,o+k*3+1,none⟩=some (.int .i64 p.f)∧w.cell? ⟨b,o+k*3+2,none⟩=some (.int .i64 p.n):=by
 have hl:k<l.length:=rB;have hx:l[k]?=some l[k]:=oA;obtain⟨b,o,ha,hc⟩:=h.cell k _ hx;exact⟨b,o,l[k],ha,hx,hc 0 _ rfl,hc 1 _ rfl,hc 2 _ rfl⟩
theorem be_ {l:List Ex}(h:Cg w a n l)(hk:k<n):
  ∃ b o p,a=some ⟨b,o,none⟩∧l[k]?=some p∧w.cell? ⟨b,o+k*2,none⟩=some (.int .i64 p.a)∧w.cell? ⟨b,o+k*2+1,none⟩=some (.string p.d):=by
 have hl:k<l.length:=rB;have hx:l[k]?=some l[k]:=oA;obtain⟨b,o,ha,hc⟩:=h.cell k _ hx;exact⟨b,o,l[k],ha,hx,hc 0 _ rfl,hc 1 _ rfl⟩
theorem Aa {wr:World}(h:Below w.heap.size w wr)(k:Below wr.heap.size wr w1):Below w.heap.size w w1:=h.trans (k.mono h.size)
structure Grw (W:World) where
 w:World
 h:Below W.heap.size W w
theorem aA_ (W:World):Nonempty (Grw W):=⟨⟨W,Yg _ _⟩⟩
theorem ah_ (h:∃ x:Grw W,w'=x.w):Below W.heap.size W w':=by obtain⟨x,rfl⟩:=h;exact x.h
theorem Ad (h:W.cell? ⟨b,o,none⟩=some v):∀ x:Grw W,x.w.cell? ⟨b,o,none⟩=some v:=fun x=>Ab x.h h
theorem ab_ {id:Nat}{Q:Exit->Act->World->Prop}{a:Act}{l:List Oper}(hm:P.follows .mixedOrders=true)(hB:Region.lexB .any l.toArray=true)
  (h:wpQuiet P l.toArray (fun w'=>∃ x:Grw W,w'=x.w) (fun a'=>∀ w',(∃ x:Grw W,w'=x.w)->Q .normal a' w') l a):(Code.region id l.toArray true).wp P Q a W:=
 wp_region_quiet (C:=fun w'=>∃ x:Grw W,w'=x.w) hm hB ⟨⟨_,(Yg _ _).drew⟩,rfl⟩ sP
theorem an_ {f:FuncId}{x:Grw W}
  (h:Calls P f args x.w fun e w'=>e=.returned v∧Below x.w.heap.size x.w w'):Calls P f args x.w fun e w'=>e=.returned v∧∃ y:Grw W,w'=y.w:=
 h.mono fun _ w' ⟨he,hb⟩=>⟨he,⟨⟨w',Aa x.h hb⟩,rfl⟩⟩
theorem am_ {f:FuncId}{x:Grw W}
  (h:Calls P f args x.w fun e w'=>e=.returned v∧w'=x.w):Calls P f args x.w fun e w'=>e=.returned v∧∃ y:Grw W,w'=y.w:=
 h.mono fun _ _ ⟨he,hb⟩=>⟨he,⟨x,hb⟩⟩
theorem al_ {x:α}(h:l[k]?=some x):l.drop k=x::l.drop (k+1):=by
 obtain⟨hk,rfl⟩:=Zb.1 h;exact List.drop_eq_getElem_cons hk
end
section
open Go Go.RowKit Tryz
variable{α:Type}{k:Nat}{l:List α}
theorem rE{p:Prop}(h:p:=by simpa using qW):p:=h
theorem bx_ {x:α}(h:l[k]?=some x):l.take (k+1)=l.take k++[x]:=by
 rw[ZK,h];rfl
end
section
open Go Go.RowKit Go.BigFrame Tryz
variable{l:List Ex}
theorem Strs.at (h:Strs l){k:Nat}{e:Ex}(he:l[k]?=some e):e.d.size<=9223372036854775807:=h e (Zc he)
theorem ms{p:Prop}(h:p:=by rw[hI.out,Ze (Zm qg.out)];rfl):p:=h
end
section
open Go Go.RowKit
variable{a b:Ow}
theorem aN_ {w:World}{a:Option Addr}{n:Nat}{l:List Ct}(h:A8 w a n l){k:Nat}(hk:k<n):
  ∃ b o p,a=some ⟨b,o,none⟩∧l[k]?=some p∧w.cell? ⟨b,o+k*4,none⟩=some (.int .i64 p.o.a)∧w.cell? ⟨b,o+k*4+1,none⟩=some (.int .i64 p.o.v)∧w.cell? ⟨b,o+k*4+2,none⟩=some (.string p.o.f)∧w.cell? ⟨b,o+k*4+3,none⟩=some (.int .i64 p.n):=by
 have hl:k<l.length:=rB;have hx:l[k]?=some l[k]:=oA;obtain⟨b,o,ha,hc⟩:=h.cell k _ hx;exact⟨b,o,l[k],ha,hx,hc 0 _ rfl,hc 1 _ rfl,hc 2 _ rfl,hc 3 _ rfl⟩
end
section
open Go Go.RowKit
variable{n:Nat}
def Ar:List Pt->Int
 |[]=>0
 |p::r=>p.n+Ar r
end
section
open Go Go.RowKit Tryz
variable{α:Type}{b n r:Nat}{l:List α}
theorem cH_ (l:List Pt):∀ (q:Option Pt) (s:Int),0<=s->pgo q s l=true->(∀ p∈l,Al p=true)∧Ar l<=s:=by
 induction l with
 |nil=>intro q s h0 _;exact⟨sK,by simpa[Ar] using h0⟩
 |cons p r ih=>
  intro q s h0 h;have hh:Al p=true∧p.n<=s∧pgo (some p) (s-p.n) r=true:=by
   cases q
   ·simp[pgo] at h;exact⟨h.1.1,h.1.2,h.2⟩
   ·simp[pgo] at h;exact⟨h.1.1.1,h.1.1.2,h.2⟩
  obtain⟨a,b⟩:=ih (some p) (s-p.n) sH hh.2.2;refine⟨?_,by simp[Ar];omega⟩;intro x hx;rcases Zn.1 hx with rfl | hx
  ·exact hh.1
  ·exact a x hx
theorem ae_ {l:List Pt}(h:Ae l=true):l.length<=16∧(∀ p∈l,Al p=true)∧Ar l<=100:=by
 simp[Ae] at h;exact⟨h.1,cH_ l none 100 sH h.2⟩
end
section
open Go Go.RowKit
variable{α:Type}{K:Act->World->Prop}{ops:Array Oper}{Q:Exit->Act->World->Prop}{B b sz:Nat}{o:Oper}{a:Option Addr}{P:Program}{t:TypeId}{w:World}{cs:α->List Value}
theorem aJ_ {a:Act}{E:Prop}(hg:o.guard=none)(h:o.wp P a w K Q):
  if Region.wanted o (yielded ops a.tmps)=true then Oper.wp P o a w K Q else E:=by
 have hw:Region.wanted o (yielded ops a.tmps)=true:=by simp[Region.wanted,hg]
 rw[if_pos hw];exact h
theorem rP{p:Prop}(h:p:=by have:=(Zb.1 hx).1;simp at this;exact this):p:=h
theorem aw_ (hb:Blk w b #[] t)(hB:B<=b):Ac cs sz t w B (some ⟨b,0,none⟩) 0 0 ([]:List α):=
 ⟨⟨rfl,fun i x hx=>by simp at hx⟩,.inr ⟨b,rfl,hB,Zd _,Zg _,#[],hb,sK,sK⟩⟩
end
section
open Go Go.RowKit Tryz
variable{b k:Nat}{w w':World}
theorem ao_ {w1:World}(hb:Below w.heap.size w w1)(hg:w1.grownBy w' (some b))(hn:w.heap.size<=b):Below w.heap.size w w':=
 hb.grown hg hb.size (fun k e=>by cases e;exact hn)
end
section
open Go Go.RowKit
variable{α:Type}{l:List α}{cs:α->List Value}
theorem cI_ (l:List Pt):∀ u∈l.flatMap Pt.cs,u.oneCell'=true:=by
 intro u hu;obtain⟨p,_,hp⟩:=ZL.1 hu;simp[Pt.cs] at hp;rcases hp with rfl | rfl | rfl<;>rfl
end
section
open Go Go.RowKit Tryz
variable{n:Nat}{w w':World}
theorem ai_ (n lo hi:Int)(w:World):
  Calls prog 85 #[.int .i64 n,.int .i64 lo,.int .i64 hi] w fun e w'=>e=.returned (.bool (decide (lo<=n)&&decide (n<=hi)))∧w'=w:=by
 go_enter func85,ntmps85;go_wp2;(all_goals go_returns);(all_goals go_light);(all_goals refine⟨?_,rfl⟩);(all_goals simp_all);all_goals try omega
end
section
open Go Go.RowKit
variable{α:Type}{i:Nat}{a:Option Addr}{l:List α}
theorem lgA {α:Type _}{a:List α}:a.toArray[i]?=a[i]?:=Yp ..
theorem lgB {α:Type _}{a:α}{l:List α}:(a::l)[0]?=some a:=Yo ..
theorem lgC {α:Type _}{a:α}{l:List α}:(a::l)[i+1]?=l[i]?:=Yt ..
end
section
open Go Go.RowKit
variable{α:Type}{b k:Nat}{a:Option Addr}{l:List α}
theorem a4_ {k:IntKind}{a b:Int}(h:a=b):Ending.returned (.int k a)=.returned (.int k b):=by rw[h]
theorem hh_ (l:List Pt):ahead l 0=none:=rfl
theorem b6_ (l:List Pt)(k:Nat):ahead l (k+1)=l[k]?:=by simp[ahead]
end
section
open Go.RowKit Go.Lib
variable{P:Program}
theorem ca_ (k:Nat):(zs k).size=k:=by simp[zs,ByteArray.size]
theorem jN_ (k:Nat):(strCells (zs k)).toArray=Builtin.zeroCells #[Value.int .u8 0] k:=by
 apply Array.ext';apply List.ext_getElem?;intro j;by_cases h:j<k
 ·simp[strCells,zs,Builtin.zeroCells,h];rw[Nat.mod_one];rfl
 ·simp[strCells,zs,Builtin.zeroCells,h]
theorem jO_ {w:World}{B e:Nat}{v:Value}{n:Nat}{s:ByteArray}(h:w.ownsRow B e 1 v n (strCells s))(src:TypeId)(hs:P.underlying src=some (.slice e))(he:P.underlying e=some (.int .u8)):
  ∀ dst,P.underlying dst=some .string->(convert src dst v).run P w=.ok (.string s) w:=by
 intro dst hd;have hn:n=s.size:=by have:=h.1;rw[strCells_length] at this;omega
 rcases h.2 with⟨rfl,h0⟩ | ⟨g,cap,cur,rfl,_,hg,hf,_,hc,hb⟩
 ·rw[run_convert_bytes_nil w src e hs he 0 0 dst hd];have:s.size=0:=sH;obtain⟨⟨l⟩⟩:=s;simp[ByteArray.size] at this;subst this;rfl
 ·have:=run_convert_bytes_arg (P:=P) w src e hs he g 0 n cap (s.data.toList.map fun b=>(b.toNat:Int)) (by rw[List.length_map,Array.length_toList,hn];rfl) (fun i hi=>by
   have h1:(strCells s)[i]?=some (.int .u8 ((s.data.toList.map fun b=>(b.toNat:Int)).getD i 0)):=by
    have ha:i<s.data.size:=by rw[hn] at hi;exact hi
    simp[strCells];exact⟨s.data[i],Array.getElem?_eq_getElem ha,by rw[Array.getElem?_eq_getElem ha];rfl⟩
   rw[<-hb,Nat.mul_one,Ya hi] at h1;simp only[World.cell?,hg,Zq];rw[<-h1];simp) dst hd
  rw[this];congr 2;obtain⟨⟨l⟩⟩:=s;simp[strOfNums];rw[show ((fun n:Int=>UInt8.ofNat n.toNat) ∘ fun b:UInt8=>(b.toNat:Int))=id from funext fun b=>by simp];simp
end
section
open Go Go.RowKit Tryz
variable{α:Type}{k n:Nat}{l:List α}
theorem pm{p:Prop}(h:p:=by
 obtain rfl:k=n:=sH
 go_wp2;go_returns;go_light;refine⟨ac_ ?_,hB⟩;rw[qd.out,hI.out,Ze (Zm qM.out)];cases ahead l k<;>rfl):p:=h
theorem sw{p:Prop}(h:p:=by go_wp2;go_returns;go_light;refine⟨ac_ ?_,Yg _ _⟩;simp[Ae,qg];omega):p:=h
end
section
open Go Go.RowKit Go.BigFrame Tryz
theorem fH_ (s:ByteArray)(k:Nat)(h:k<s.size):s.data.toList.drop k=s[k]::s.data.toList.drop (k+1):=by
 rw[List.drop_eq_getElem_cons sP];rfl
theorem lY{p:Prop}(h:p:=by
 have hs:Hid (d.data.toList.drop k=d[k]::d.data.toList.drop (k+1)):=fH_ d k hlt
 cases hc:HM d[k]
 ·have zS:(d[k].toNat:Int)<32∨126<(d[k].toNat:Int):=by simp[HM] at hc;omega
  go_wp2;(all_goals go_returns);(all_goals go_light);all_goals (refine⟨ac_ ?_,rfl⟩;rw[hI.out,hs.out];simp[hc])
 ·have zS:32<=(d[k].toNat:Int)∧(d[k].toNat:Int)<=126:=by simp[HM] at hc;omega
  obtain⟨jR,jQ⟩:=zS;go_wp2;go_round
  case rel=>exact⟨k+1,sH,sQ,by show _=_;rw[hI.out,hs.out];simp[hc]⟩
  case measure=>simp[intOf];omega):p:=h
theorem mp{p:Prop}(h:p:=by
 go_wp2;(all_goals go_returns);(all_goals go_light)
 all_goals exact⟨ac_ qd.out.symm,rfl⟩):p:=h
theorem fD{p:Prop}(h:p:=by show _=_;have:=qg.out;simp[Af];omega):p:=h
end
section
open Go Go.RowKit Go.BigFrame Tryz
theorem gd_ {l:List Pt}(h:Ae l=true):l.length<=16∧∀ p∈l,1<=p.n∧p.n<=100∧(p.a≠0->0<=p.f∧p.f<20):=by
 simp only[Ae,Zf,ZU] at h;refine⟨h.1,fun p hp=>?_⟩;obtain⟨h1,h2⟩:=jR_ h.2 sH p hp;refine⟨av_ h1,h2,fun ha=>?_⟩;have hb:(p.a==0)=false:=dp;simp only[Al,hb,Zj,if_false,Zf,ZU] at h1;omega
theorem ek_ {addr:Int}:∀ {e:List Ex},Strs e->(AU addr e).size<=9223372036854775807
 |[],_=>by simp[AU,ByteArray.size]
 |x::r,h=>by
  unfold AU;split
  ·exact h x sK
  ·exact ek_ (fun y hy=>h y rN)
end
section
open Go Go.RowKit
variable{w w1:World}
theorem Hk {x y z:Value}{t:TypeId}(hb:Below (w.alloc (.cells #[x,y,z] t)).heap.size (w.alloc (.cells #[x,y,z] t)) w1):
  w1.cell? ⟨w.heap.size,0,none⟩=some x∧w1.cell? ⟨w.heap.size,1,none⟩=some y∧w1.cell? ⟨w.heap.size,2,none⟩=some z∧Below w.heap.size w w1∧w.heap.size<w1.heap.size:=
 ⟨Ab hb (Yv _ _ _ 0),Ab hb (Yv _ _ _ 1),Ab hb (Yv _ _ _ 2),
  ((Yg _ _).alloc (Zd _) _).trans (hb.mono sK),by have:=hb.size;simp at this;omega⟩
end
section
open Go Go.RowKit
variable{cap n:Nat}{a:Option Addr}
theorem ej_ {x:Nat}(h:∀ ad,a=some ad->x<ad.block):some x≠Value.ownBlock (.slice a n cap):=by
 exact mN
end
section
open Go Go.RowKit
variable{a b:Ow}
theorem ct_ (h:Bl a b=false)(hne:a≠b):Bl b a=true:=by
 by_cases h1:a.a=b.a
 ·by_cases h2:a.v=b.v
  ·have h3:a.f.toList≠b.f.toList:=fun e=>hne (aM_.1 (by simp[Cn,h1,h2,e]));simp only[Bl,h1,h2,ne_eq,not_true,if_false] at h ⊢;exact jT_ h h3
  ·simp only[Bl,h1,ne_eq,not_true,if_false,h2,not_false_eq_true,if_true,YU] at h;simp only[Bl,h1,ne_eq,not_true,if_false,if_pos (Ne.symm h2),ZU];omega
 ·simp only[Bl,ne_eq,h1,not_false_eq_true,if_true,YU] at h;simp only[Bl,ne_eq,if_pos (Ne.symm h1),ZU];omega
theorem jW_:Bl a b=true↔a.a<b.a∨(a.a=b.a∧(a.v<b.v∨(a.v=b.v∧bl a.f.toList b.f.toList=true))):=by
 unfold Bl;split
 ·rename_i h;simp;omega
 ·rename_i h;split
  ·rename_i k;simp;omega
  ·rename_i k;simp at h k;constructor
   ·intro e;exact .inr ⟨h,.inr ⟨k,e⟩⟩
   ·rintro (e | ⟨_,e | ⟨_,e⟩⟩)
    ·omega
    ·omega
    ·exact e
theorem b7_ {c:Ow}(h:Bl a b=true)(k:Bl b c=true):Bl a c=true:=by
 rw[jW_] at *;rcases h with h | ⟨h1,h | ⟨h2,h⟩⟩<;>rcases k with k | ⟨k1,k | ⟨k2,k⟩⟩
 case inr.inr.inr.inr=>exact .inr ⟨sH,.inr ⟨sH,hl_ h k⟩⟩
 case inl.inl=>exact .inl sH
 case inl.inr.inl=>exact .inl sH
 case inl.inr.inr=>exact .inl sH
 case inr.inl.inl=>exact .inl sH
 case inr.inr.inl=>exact .inl sH
 case inr.inl.inr.inl=>exact .inr ⟨sH,.inl sH⟩
 case inr.inl.inr.inr=>exact .inr ⟨sH,.inl sH⟩
 case inr.inr.inr.inl=>exact .inr ⟨sH,.inl sH⟩
end
section
open Go Go.RowKit Tryz
variable{α:Type}{b n r:Nat}{w w':World}{l:List α}
def sgo:Option Pt->Int->List Pt->Bool
 |_,s,[]=>decide (s<=100)
 |none,s,p::r=>(Al p&&decide (p.n<=100))&&sgo (some p) (s+p.n) r
 |some q,s,p::r=>(Al p&&decide (p.n<=100))&&!Bd q p&&sgo (some p) (s+p.n) r
theorem nX_ (l:List Pt):∀ (q:Option Pt) (s:Int),100<s->sgo q s l=false:=by
 induction l with
 |nil=>intro q s h;cases q<;>simp[sgo]<;>omega
 |cons p r ih=>
  intro q s h
  cases hp:Al p
  ·cases q<;>simp[sgo,hp]
  ·have:=av_ hp
   cases q<;>simp[sgo,ih _ (s+p.n) sH]
theorem pe_ (l:List Pt):∀ (q:Option Pt) (s:Int),0<=s->s<=100->sgo q s l=pgo q (100-s) l:=by
 induction l with
 |nil=>intro q s h0 h1;cases q<;>simp[sgo,pgo]<;>omega
 |cons p r ih=>
  intro q s h0 h1
  cases hp:Al p
  ·cases q<;>simp[sgo,pgo,hp]
  ·have hb:=av_ hp;by_cases hle:p.n<=100-s
   ·have e:=ih (some p) (s+p.n) sH sH;have e2:100-(s+p.n)=100-s-p.n:=sH;have ha:p.n<=100:=sH;rw[e2] at e
    cases q<;>simp[sgo,pgo,hp,e,hle,ha]
   ·have e:=nX_ r (some p) (s+p.n) sH
    cases q<;>simp[sgo,pgo,e,hle]
theorem gC_ (p q:Pt)(w:World):
  Calls prog 178 #[.agg #[.int .i64 p.a,.int .i64 p.f,.int .i64 p.n],.agg #[.int .i64 q.a,.int .i64 q.f,.int .i64 q.n]] w fun e w'=>e=.returned (.bool (Bd p q))∧Below w.heap.size w w':=by
 obtain⟨a,f,n⟩:=p;obtain⟨b,g,m⟩:=q;go_enter func178,ntmps178;go_wp2;(all_goals go_returns);(all_goals go_light);(all_goals refine⟨?_,sM⟩);(all_goals simp_all [Bd]);all_goals first | (rw[YH];simp;omega) | omega
theorem cR_ (p:Pt)(w:World):
  Calls prog 177 #[.agg #[.int .i64 p.a,.int .i64 p.f,.int .i64 p.n]] w fun e w'=>e=.returned (.bool (Al p&&decide (p.n<=100)))∧Below w.heap.size w w':=by
 obtain⟨a,f,n⟩:=p;go_enter func177,ntmps177;go_wp2;(all_goals go_returns);(all_goals go_light);(all_goals refine⟨?_,sM⟩);(all_goals simp[Al, *]);(all_goals try omega);all_goals (rw[YH];simp;omega)
end
section
open Go Go.RowKit Go.BigFrame Tryz
variable{l:List Ex}
theorem a7_ (d:ByteArray)(w:World)(hd:d.size<=9223372036854775807):
  Calls prog 133 #[.string d] w fun e w'=>e=.returned (.bool (plainB d&&decide (d.size<=20)))∧w'=w:=by
 have ha:Hid (plainB d=(d.data.toList.drop 0).all HM):=rfl;go_enter func133,ntmps133;go_wp2_with fail;go_loop [3] (fun ix=>∃ (k:Nat),k<=d.size∧ix=.int .i64 k∧Hid (plainB d=(d.data.toList.drop k).all HM)) (fun ix=>d.size-(intOf ix).toNat)
 case atStart=>exact⟨0,Zg _,rfl,ha⟩
 case round=>
  obtain⟨k,hk,rfl,hI⟩:=hrel;by_cases hlt:k<d.size
  ·exact lY
  ·obtain rfl:k=d.size:=sH;go_wp2;go_returns;go_light;refine⟨ac_ ?_,rfl⟩;rw[hI.out,Ze sK];rw[YH];simp;omega
theorem dz_ (d:ByteArray):At d=(decide (1<=d.size)&&(plainB d&&decide (d.size<=20))):=by
 unfold At;cases plainB d<;>cases decide (1<=d.size)<;>cases decide (d.size<=20)<;>rfl
theorem si{p:Prop}(h:p:=by go_wp2;go_returns;go_light;refine⟨ac_ ?_,rfl⟩;rw[hI.out,hd.out];simp[xgo,kI.out]):p:=h
theorem aT_ (size:Int)(a:Option Addr)(n cap:Nat)(l:List Ex)(w:World)(h:Cg w a n l)(hstr:Strs l)(hn:n<=4194304):
  Calls prog 90 #[.int .i64 size,.slice a n cap] w fun e w'=>e=.returned (.bool (Af size l))∧w'=w:=by
 have qg:Hid (l.length=n):=h.len;by_cases h0:1<=size∧size<=400∧n<=60
 ·have qd:Hid (Af size l=xgo size 1 (l.drop 0)):=by show _=_;simp[Af,qg.out,h0]
  obtain⟨h1,hg,hm⟩:=h0;have he:(decide (1<=size)&&decide (size<=400))=true:=by simp[h1,hg]
  go_enter func90,ntmps90;go_wp2_with fail;refine (ai_ _ _ _ _).mono ?_;rintro e w1 ⟨rfl,rfl⟩;rw[he];go_wp2_with fail;go_loop [5,6] (fun nx ix=>∃ (k:Nat) (next:Int),k<=n∧ix=.int .i64 k∧nx=.int .i64 next∧1<=next∧next<=421∧Hid (Af size l=xgo size next (l.drop k))) (fun _ ix=>n-(intOf ix).toNat)
  case atStart=>exact⟨0,1,Zg _,rfl,rfl,sH,sH,qd⟩
  case round=>
   obtain⟨k,next,hk,rfl,rfl,hs,ht,hI⟩:=hrel;by_cases hlt:k<n
   ·obtain⟨b,o,p,rfl,hp,c0,c1⟩:=be_ h hlt;have hd:Hid (l.drop k=p::l.drop (k+1)):=al_ hp;have hf:=hstr.at hp;clear hp he;by_cases hz:p.d.size=0
    ·have hl:((p.d.size:Int)==0)=true:=beq_iff_eq.2 sH;have kI:Hid (At p.d=false):=by show _=_;simp[At,hz]
     clear hz;exact si
    ·have hl:((p.d.size:Int)==0)=false:=ZV.2 sH
     cases ha:(plainB p.d&&decide (p.d.size<=20))
     ·have kI:Hid (At p.d=false):=by show _=_;rw[dz_,ha];simp
      go_wp2_with fail;refine (a7_ p.d _ hf).mono ?_;rintro e w1 ⟨rfl,rfl⟩;rw[ha];exact si
     ·have hb:=ha;simp at hb;have kI:Hid (At p.d=true):=by show _=_;rw[dz_,ha];simp;omega
      have hr:p.d.size<=20:=hb.2;have hq:1<=p.d.size:=sH;clear hb
      cases hc:(decide (next<=p.a)&&decide (p.a<=size))
      ·go_wp2_with fail;refine (a7_ p.d _ hf).mono ?_;rintro e w1 ⟨rfl,rfl⟩;rw[ha];go_wp2_with fail;refine (ai_ _ _ _ _).mono ?_;rintro e w1 ⟨rfl,rfl⟩;rw[hc];go_wp2;go_returns;go_light;refine⟨ac_ ?_,rfl⟩;simp at hc;rw[hI.out,hd.out];simp[xgo,kI.out];omega
      ·have hh:=hc;simp at hh;obtain⟨hj,ho⟩:=hh;by_cases hok:p.a+p.d.size-1<=size
       ·go_wp2_with fail;refine (a7_ p.d _ hf).mono ?_;rintro e w1 ⟨rfl,rfl⟩;rw[ha];go_wp2_with fail;refine (ai_ _ _ _ _).mono ?_;rintro e w1 ⟨rfl,rfl⟩;rw[hc];go_wp2;go_round
        case rel=>exact⟨k+1,p.a+p.d.size,sH,sQ,sQ,sH,sH,by show _=_;rw[hI.out,hd.out];have:p.a<=size+1-p.d.size:=sH;simp[xgo,kI.out,hj,this]⟩
        case measure=>simp[intOf];omega
       ·go_wp2_with fail;refine (a7_ p.d _ hf).mono ?_;rintro e w1 ⟨rfl,rfl⟩;rw[ha];go_wp2_with fail;refine (ai_ _ _ _ _).mono ?_;rintro e w1 ⟨rfl,rfl⟩;rw[hc];go_wp2;go_returns;go_light;refine⟨ac_ ?_,rfl⟩;rw[hI.out,hd.out];simp[xgo,kI.out];omega
   ·obtain rfl:k=n:=sH;go_wp2;go_returns;go_light;refine⟨ac_ ?_,rfl⟩;exact ms
 ·have qd:Hid (Af size l=false):=fD
  cases he:(decide (1<=size)&&decide (size<=400));all_goals
   go_enter func90,ntmps90;go_wp2_with fail;refine (ai_ _ _ _ _).mono ?_;rintro e w1 ⟨rfl,rfl⟩;rw[he];simp at he;exact mp
end
section
open Go Go.RowKit Go.BigFrame Tryz
def atG (addr:Int):Nat->List Ex->Int
 |_,[]=>-1
 |k,e::r=>if e.a==addr then (k:Int) else atG addr (k+1) r
theorem iC_ (a:Option Addr)(n cap:Nat)(l:List Ex)(addr:Int)(w:World)(h:Cg w a n l)(hn:n<=4194304):
  Calls prog 96 #[.slice a n cap,.int .i64 addr] w fun e w'=>e=.returned (.int .i64 (atG addr 0 l))∧w'=w:=by
 have qg:Hid (l.length=n):=h.len;go_enter func96,ntmps96;go_wp2_with fail;go_loop [5] (fun ix=>∃ (k:Nat),k<=n∧ix=.int .i64 k∧Hid (atG addr 0 l=atG addr k (l.drop k))) (fun ix=>n-(intOf ix).toNat)
 case atStart=>exact⟨0,Zg _,rfl,rfl⟩
 case round=>
  obtain⟨k,hk,rfl,hI⟩:=hrel;by_cases hlt:k<n
  ·obtain⟨b,o,p,rfl,hp,c0,c1⟩:=be_ h hlt;have hd:Hid (l.drop k=p::l.drop (k+1)):=al_ hp;clear hp
   cases he:(p.a==addr)
   ·go_wp2;go_round
    case rel=>exact⟨k+1,sH,sQ,by show _=_;rw[hI.out,hd.out];simp only[atG,he,Zj,if_false]⟩
    case measure=>simp[intOf];omega
   ·go_wp2;go_returns;go_light;refine⟨a4_ ?_,rfl⟩;rw[hI.out,hd.out];simp only[atG,he,if_true]
  ·obtain rfl:k=n:=sH;go_wp2;go_returns;go_light;refine⟨a4_ ?_,rfl⟩;exact ms
end
section
open Go Go.RowKit
theorem pZ{p:Prop}(h:p:=by rcases hp with rfl | rfl<;>rfl):p:=h
end
section
open Go Go.RowKit
variable{α:Type}{b k n o:Nat}{a:Option Addr}{w:World}{l:List α}
theorem nW_ {l:List Int}(h:Hi w a n l)(hk:k<n):
  ∃ b o p,a=some ⟨b,o,none⟩∧l[k]?=some p∧w.cell? ⟨b,o+k,none⟩=some (.int .i64 p):=by
 have hl:k<l.length:=rB;have hx:l[k]?=some l[k]:=oA;obtain⟨b,o,ha,hc⟩:=h.cell k _ hx;exact⟨b,o,l[k],ha,hx,by simpa using hc 0 _ rfl⟩
end
section
open Go Go.RowKit
theorem mw_ (x:Int):[Value.int .i64 x].length=1:=rfl
end
section
open Go Go.RowKit Tryz
variable{c:Array Value}{b k:Nat}{t:TypeId}{w w' w0:World}
theorem au_ (h:w0.grownBy w (some b))(hb:Below w.heap.size w w'):w0.grownBy w' (some b):=
 ⟨hb.os.trans h.os,hb.tape.trans h.tape,hb.output.trans h.output,Zl h.size hb.size,fun k hk ha=>by
  rw[hb.block k (Zy hk h.size)];exact h.block k hk ha⟩
theorem aV_ (h:w0.grownBy w (some b))(hb:w.grownBy w' (some b)):w0.grownBy w' (some b):=
 ⟨hb.os.trans h.os,hb.tape.trans h.tape,hb.output.trans h.output,Zl h.size hb.size,fun k hk ha=>by
  rw[hb.block k (Zy hk h.size) ha];exact h.block k hk ha⟩
theorem fz6 (h : Blk w b c t) : w.frozen? ⟨b, 0, none⟩ = false ∧ w.frozen? ⟨b, 1, none⟩ = false ∧ w.frozen? ⟨b, 2, none⟩ = false ∧ w.frozen? ⟨b, 3, none⟩ = false ∧ w.frozen? ⟨b, 4, none⟩ = false ∧ w.frozen? ⟨b, 5, none⟩ = false := ⟨h.frozen 0, h.frozen 1, h.frozen 2, h.frozen 3, h.frozen 4, h.frozen 5⟩
end
section
open Go Go.RowKit
variable{α:Type}{l:List α}{cs:α->List Value}
theorem bF_ (p:Pt):p.cs.length=3:=rfl
theorem aK_ (p:Ex):p.cs.length=2:=rfl
theorem aU_ (l:List Ex):∀ u∈l.flatMap Ex.cs,u.oneCell'=true:=by
 intro u hu;obtain⟨p,_,hp⟩:=ZL.1 hu;simp[Ex.cs] at hp;exact pZ
end
section
open Go Go.RowKit Go.BigFrame Tryz
theorem Qi:(prog.info? 111).map (fun i=>(i.zero,i.size,i.bytes))=some (some (.agg #[.int .i64 0,.string .empty]),2,24):=by kernel_rfl
theorem c9_ (w:World)(p:Ex)(t:TypeId)(b:Nat)(hb:b=w.heap.size):Cg (w.alloc (.cells #[.int .i64 p.a,.string p.d] t)) (some ⟨b,0,none⟩) 1 [p]:=by
 subst hb;refine⟨rfl,fun i x hx=>⟨w.heap.size,0,rfl,fun j v hv=>?_⟩⟩;have hi:i=0:=rP;subst hi;simp at hx;subst hx
 match j,hv with
 |0,hv=>obtain rfl:=Zi hv;simp
 |1,hv=>obtain rfl:=Zi hv;simp
 |j+2,hv=>simp[Ex.cs] at hv
end
section
open Go Go.RowKit
variable{w w1:World}
theorem Rr (h:Below w.drew.heap.size w.drew w1):Below w.heap.size w w1:=((Yg _ _).drew).trans h
end
section
open Go.RowKit Go.Lib
variable{P:Program}
theorem i4_ (w:World)(t tn u ty e:TypeId)(i:TypeInfo)(kn kq:IntKind)(ht:P.underlying t=some (.slice e))(htn:P.underlying tn=some (.int kn))(hu:P.underlying u=some .string)(hi:P.info? e=some i)(hz:i.zero=some (.int .u8 0))(hsize:i.size=1)(hby:i.bytes=1)
  (base:Option Addr)(sLen sCap k:Nat)(hk:0<k)(hb:sLen+k<=140737488355328):
  (Builtin.append_ #[t,tn] ty #[.slice base sLen sCap,.int kq k]).run P w=(Builtin.append_ #[t,u] ty #[.slice base sLen sCap,.string (zs k)]).run P w:=by
 have hw:IntKind.i64.wrap (k:Int)=k:=rj;have hg:k≠0:=sH;have hc:¬ ((k:Int)<0):=sH;have ha:¬ (281474976710656<(k:Int)):=sH;have he:¬ (9223372036854775807<((sLen:Int)+(k:Int))):=sH;have hf:=fun W=>run_firstCells_string (P:=P) W 1 (zs k);rw[ca_,jN_] at hf;by_cases hn:sLen+k<=sCap
 ·simp[Builtin.append_,YY ht,YY htn,YY hu,sizeOf,typeInfo,zeroValue,hi,hz,hsize,hby,asInt,asIntOf,hw,Builtin.lenOf,ca_,hn,hc,hg,ha,hf,Value.cells]
 ·simp[Builtin.append_,YY ht,YY htn,YY hu,sizeOf,typeInfo,zeroValue,hi,hz,hsize,hby,asInt,asIntOf,hw,Builtin.lenOf,ca_,hn,hc,hg,ha,he,hf,Value.cells];have hj:Builtin.nextslicecap (sLen+k) sCap*1<=281474976710656:=growslice_fits sH sH;have hh:¬ (281474976710656<Builtin.nextslicecap (sLen+k) sCap):=sH;rw[if_neg hh,if_neg hh]
theorem eY_ (w:World){ops:Array Oper}{rest:List Oper}{o:Oper}{a:Act}{Q:Exit->Act->World->Prop}(hgd:o.guard=none)(sl x:Operand)(t tn u:TypeId)
  (ho:o.op=.call {callee:=.builtin .append,args:=#[sl,x],argTypes:=#[t,tn]})
  (base:Nat)(e:TypeId)(i:TypeInfo)(kn:IntKind)(ht:P.underlying t=some (.slice e))(htn:P.underlying tn=some (.int kn))(hu:P.underlying u=some .string)(hi:P.info? e=some i)(hz:i.zero=some (.int .u8 0))
  (hsize:i.size=1)(hby:i.bytes=1)
  (v:Value)(n:Nat)(xs:List Value)(hs:a.eval sl=v)(ha:w.ownsRow base e 1 v n xs)(kq:IntKind)(k:Nat)(hx:a.eval x=.int kq k)(hk:0<k)
  (hbytes:n+k<=140737488355328)(hbase:base<=w.heap.size)
  (h:∀ v' w',w'.ownsRow base e 1 v' (n+k) (xs++strCells (zs k))->w.grownBy w' v.ownBlock->wpList P ops Q rest (a.put o.dst v') w'):wpList P ops Q (o::rest) a w:=by
 refine wpList_plain hgd fun K hK=>?_;obtain⟨v',w',hr,h2,h3,_⟩:=run_append_own_string (P:=P) w base t u o.type e i ht hu hi hz hsize hby v n xs ha (zs k) (by rw[ca_];unfold maxLen;omega) (by rw[ca_];omega) hbase;rw[ca_] at h2;obtain⟨b0,l0,c0,rfl⟩:∃ b0 l0 c0,v=.slice b0 l0 c0:=by
  rcases ha.2 with⟨rfl,_⟩ | ⟨g,cap,cur,rfl,_⟩
  ·exact⟨_,_,_,rfl⟩
  ·exact⟨_,_,_,rfl⟩
 have hb:l0+k<=140737488355328:=by
  rcases ha.2 with⟨e1,_⟩ | ⟨g,cap,cur,e1,_⟩
  ·simp at e1;omega
  ·simp at e1;omega
 rw[<-i4_ w t tn u o.type e i kn kq ht htn hu hi hz hsize hby b0 l0 c0 k hk hb] at hr;unfold Oper.wp execOp;simp only[ho,resolve,invoke,builtin,Sem.run_bind,Sem.run_pure,Result.andThen_ok,List.map_toArray,YD,List.map_nil,hs,hx,hr];exact hK _ _ (h v' w' h2 h3)
end
section
open Go Go.RowKit Tryz
variable{α:Type}{b k n r:Nat}{w w':World}{l:List α}
theorem cG_ (p:Pt)(w:World):
  Calls prog 192 #[.agg #[.int .i64 p.a,.int .i64 p.f,.int .i64 p.n]] w fun e w'=>e=.returned (.bool (Al p))∧Below w.heap.size w w':=by
 obtain⟨a,f,n⟩:=p;go_enter func192,ntmps192;go_wp2;(all_goals go_returns);(all_goals go_light);(all_goals refine⟨?_,sM⟩);(all_goals simp[Al, *]);all_goals try omega
theorem gB_ (p q:Pt)(w:World):
  Calls prog 193 #[.agg #[.int .i64 p.a,.int .i64 p.f,.int .i64 p.n],.agg #[.int .i64 q.a,.int .i64 q.f,.int .i64 q.n]] w fun e w'=>e=.returned (.bool (Bd p q))∧Below w.heap.size w w':=by
 obtain⟨a,f,n⟩:=p;obtain⟨b,g,m⟩:=q;go_enter func193,ntmps193;go_wp2;(all_goals go_returns);(all_goals go_light);(all_goals refine⟨?_,sM⟩);all_goals simp_all [Bd]
theorem as_ (a:Option Addr)(n cap:Nat)(l:List Pt)(w:World)(h:BH w a n l)(hn:n<=4194304):
  Calls prog 157 #[.slice a n cap] w fun e w'=>e=.returned (.bool (Ae l))∧Below w.heap.size w w':=by
 have qg:=h.len;by_cases h16:n<=16
 ·have qd:Hid (Ae l=pgo none 100 l):=by show _=_;simp[Ae,qg,h16]
  have qM:Hid (l.length=n):=qg;clear qg;go_enter func157,ntmps157;go_wp2_with fail;go_loopw [2,3,4,5,11] (fun r left i p ix wr=>∃ (k:Nat) (lf:Int),k<=n∧ix=.int .i64 k∧left=.int .i64 lf∧0<=lf∧lf<=100∧Hid (pgo none 100 l=pgo (ahead l k) lf (l.drop k))∧Below w.heap.size w wr) (fun _ _ _ _ ix _=>n-(intOf ix).toNat)
  case atStart=>exact⟨0,100,Zg _,rfl,rfl,sH,sH,rfl,Yg _ _⟩
  case round=>
   obtain⟨k,lf,hk,rfl,rfl,hr,hs,hI,hB⟩:=hrel;by_cases hlt:k<n
   ·obtain⟨b,o,p,rfl,hp,c0,c1,c2⟩:=bi_ (h.below hB) hlt;have hd:Hid (l.drop k=p::l.drop (k+1)):=al_ hp;have hq:Hid (l[k]?=some p):=hp;clear hp;have hx:w.heap.size<=wr.heap.size:=hB.size
    cases he:Al p
    ·go_wp2_with fail;refine (cG_ p _).mono ?_;rintro e w1 ⟨rfl,hc⟩;obtain⟨x0,x1,x2,hb,hh⟩:=Hk hc;rw[he];go_wp2_with fail;go_returns;go_light;refine⟨ac_ ?_,Aa hB hb⟩;rw[qd.out,hI.out,hd.out];cases ahead l k<;>simp[pgo,he]
    by_cases hle:p.n<=lf
    ·rcases k with _ | j
     ·simp only[Nat.zero_mul,Nat.add_zero] at c0 c1 c2;go_wp2_with fail;refine (cG_ p _).mono ?_;rintro e w1 ⟨rfl,hc⟩;rw[he];obtain⟨x0,x1,x2,hb,hh⟩:=Hk hc;clear hc c0 c1 c2;have ho:=av_ he;go_wp2_with fail;go_quiet (fail);go_wp2;go_roundw
      case rel=>exact⟨1,lf-p.n,sH,sQ,sQ,sH,sH,by show _=_;rw[hI.out,hd.out,hh_,b6_,hq.out];simp[pgo,he,hle],Aa hB (Aa hb (Bj _ _))⟩
      case measure=>simp[intOf];omega
     ·obtain⟨b',o',q,qW,hm,d0,d1,d2⟩:=bi_ (h.below hB) (k:=j) sH;obtain⟨rfl,rfl⟩:b=b'∧o=o':=rE;have ha:Hid (ahead l (j+1)=some q):=by show _=_;rw[b6_];exact hm
      clear hm qW;have ho:=av_ he
      cases hl:Bd q p;all_goals
       go_wp2_with fail;refine (cG_ p _).mono ?_;rintro e w1 ⟨rfl,hc⟩;rw[he];obtain⟨x0,x1,x2,hb,hh⟩:=Hk hc;clear hc;replace d0:=Ab hb d0;replace d1:=Ab hb d1;replace d2:=Ab hb d2;clear c0 c1 c2;have hj:(0:Int)<(j:Int)+1:=sH;have ht:(j:Int)<n:=sH;have hu:(0:Int)<=j:=sH;have hv:IntKind.i64.wrap ((j:Int)+1-1)=(j:Int):=rj;have hw:IntKind.i64.wrap (j:Int)=(j:Int):=rj;go_wp2_with fail;go_region_held3 (fun w'=>w'.cell? ⟨b,o+j*3,none⟩=some (.int .i64 q.a)∧w'.cell? ⟨b,o+j*3+1,none⟩=some (.int .i64 q.f)∧w'.cell? ⟨b,o+j*3+2,none⟩=some (.int .i64 q.n)∧w'.cell? ⟨wr.heap.size,0,none⟩=some (.int .i64 p.a)∧w'.cell? ⟨wr.heap.size,1,none⟩=some (.int .i64 p.f)∧w'.cell? ⟨wr.heap.size,2,none⟩=some (.int .i64 p.n)) (go_keep)
        (first | (go_at_call 193;refine (gB_ q p _).mono ?_;rintro e w2 ⟨rfl,hf⟩;have y0:=Ab hf d0;have y1:=Ab hf d1;have y2:=Ab hf d2;have z0:=Ab hf x0;have z1:=Ab hf x1;have z2:=Ab hf x2))
       go_wp2
      ·go_roundw
       case rel=>exact⟨j+2,lf-p.n,sH,sQ,sQ,sH,sH,by show _=_;rw[hI.out,hd.out,ha.out,b6_,hq.out];simp[pgo,he,hle,hl],Aa hB (Aa hb (Rr hf))⟩
       case measure=>simp[intOf];omega
      ·go_returns;go_light;refine⟨ac_ ?_,Aa hB (Aa hb (Rr hf))⟩;rw[qd.out,hI.out,hd.out,ha.out];simp[pgo,hl]
    ·go_wp2_with fail;refine (cG_ p _).mono ?_;rintro e w1 ⟨rfl,hc⟩;rw[he];obtain⟨x0,x1,x2,hb,hh⟩:=Hk hc;go_wp2;go_returns;go_light;refine⟨ac_ ?_,Aa hB hb⟩;have hg:¬ p.n<=lf:=sH;rw[qd.out,hI.out,hd.out];cases ahead l k<;>simp[pgo,hg]
   ·exact pm
 ·go_enter func157,ntmps157;exact sw
end
section
open Go Go.RowKit Go.BigFrame Tryz
variable{l:List Ex}
theorem by_ (d:ByteArray)(w:World)(hd:d.size<=9223372036854775807):
  Calls prog 57 #[.string d] w fun e w'=>e=.returned (.bool (At d))∧w'=w:=by
 by_cases h1:1<=d.size∧d.size<=20
 ·have qd:Hid (At d=(d.data.toList.drop 0).all HM):=by show _=_;simp[At,plainB,h1]
  obtain⟨h1,ha⟩:=h1;go_enter func57,ntmps57;go_wp2_with fail;go_loop [14] (fun ix=>∃ (k:Nat),k<=d.size∧ix=.int .i64 k∧Hid (At d=(d.data.toList.drop k).all HM)) (fun ix=>d.size-(intOf ix).toNat)
  case atStart=>exact⟨0,Zg _,rfl,qd⟩
  case round=>
   obtain⟨k,hk,rfl,hI⟩:=hrel;by_cases hlt:k<d.size
   ·exact lY
   ·obtain rfl:k=d.size:=sH;go_wp2;go_returns;go_light;refine⟨ac_ ?_,rfl⟩;rw[hI.out,Ze sK];rfl
 ·have qd:Hid (At d=false):=by show _=_;simp[At];omega
  go_enter func57,ntmps57;exact mp
theorem a8_ (size:Int)(a:Option Addr)(n cap:Nat)(l:List Ex)(w:World)(h:Cg w a n l)(hstr:Strs l)(hn:n<=4194304):
  Calls prog 22 #[.int .i64 size,.slice a n cap] w fun e w'=>e=.returned (.bool (Af size l))∧Below w.heap.size w w':=by
 have qg:Hid (l.length=n):=h.len;by_cases h0:1<=size∧size<=400∧n<=60
 ·have hb:Hid (Af size l=xgo size 1 (l.drop 0)):=by show _=_;simp[Af,qg.out,h0]
  obtain⟨h1,hf,hj⟩:=h0;go_enter func22,ntmps22;go_wp2_with fail;go_loopw [5,21] (fun nx ix wr=>∃ (k:Nat) (next:Int),k<=n∧ix=.int .i64 k∧nx=.int .i64 next∧1<=next∧next<=421∧Hid (Af size l=xgo size next (l.drop k))∧Below w.heap.size w wr) (fun _ ix _=>n-(intOf ix).toNat)
  case atStart=>exact⟨0,1,Zg _,rfl,rfl,sH,sH,hb,Yg _ _⟩
  case round=>
   obtain⟨k,next,hk,rfl,rfl,hq,hr,hI,hB⟩:=hrel;by_cases hlt:k<n
   ·obtain⟨b,o,p,rfl,hp,c0,c1⟩:=be_ (h.below hB) hlt;have hd:Hid (l.drop k=p::l.drop (k+1)):=al_ hp;have he:=hstr.at hp;clear hp;have ho:=hB.size
    cases ha:At p.d
    ·go_wp2_with fail;refine (by_ p.d _ he).mono ?_;rintro e w1 ⟨rfl,rfl⟩;rw[ha];go_wp2;go_returns;go_light;refine⟨ac_ ?_,sM⟩;rw[hI.out,hd.out];simp[xgo,ha]
    ·have hc:1<=p.d.size∧p.d.size<=20:=by simp[At] at ha;exact ha.1
     obtain⟨hl,hm⟩:=hc;by_cases hok:next<=p.a∧p.a<=size+1-p.d.size
     ·obtain⟨hg,hh⟩:=hok;go_wp2_with fail;refine (by_ p.d _ he).mono ?_;rintro e w1 ⟨rfl,rfl⟩;rw[ha];go_wp2;go_roundw
      case rel=>exact⟨k+1,p.a+p.d.size,sH,sQ,sQ,sH,sH,by show _=_;rw[hI.out,hd.out];simp[xgo,ha,hg,hh],sM⟩
      case measure=>simp[intOf];omega
     ·go_wp2_with fail;refine (by_ p.d _ he).mono ?_;rintro e w1 ⟨rfl,rfl⟩;rw[ha];go_wp2;(all_goals go_returns);(all_goals go_light);(all_goals refine⟨ac_ ?_,sM⟩);all_goals (rw[hI.out,hd.out];simp[xgo,ha];omega)
   ·obtain rfl:k=n:=sH;go_wp2;go_returns;go_light;refine⟨ac_ ?_,hB⟩;exact ms
 ·have hb:Hid (Af size l=false):=fD;go_enter func22,ntmps22;go_wp2;(all_goals go_returns);(all_goals go_light);all_goals exact⟨ac_ hb.out.symm,Yg _ _⟩
end
section
open Go Go.RowKit Go.BigFrame Tryz
theorem jS_ (a:Option Addr)(n cap:Nat)(l:List Ex)(addr:Int)(w:World)(h:Cg w a n l)(hn:n<=4194304):
  Calls prog 158 #[.slice a n cap,.int .i64 addr] w fun e w'=>e=.returned (.string (AU addr l))∧Below w.heap.size w w':=by
 have hb:Hid (l.length=n):=h.len;have ha:Hid (AU addr l=AU addr (l.drop 0)):=rfl;generalize AU addr l=R at *;go_enter func158,ntmps158;go_wp2_with fail;go_loopw [9] (fun ix wr=>∃ (k:Nat),k<=n∧ix=.int .i64 k∧Hid (R=AU addr (l.drop k))∧Below w.heap.size w wr) (fun ix _=>n-(intOf ix).toNat)
 case atStart=>exact⟨0,Zg _,rfl,ha,Yg _ _⟩
 case round=>
  obtain⟨k,hk,rfl,hI,hB⟩:=hrel;have hc:=hB.size;by_cases hlt:k<n
  ·obtain⟨b,o,p,rfl,hp,c0,c1⟩:=be_ (h.below hB) hlt;have hd:Hid (l.drop k=p::l.drop (k+1)):=al_ hp
   cases he:(p.a==addr)
   ·go_wp2;go_roundw
    case rel=>exact⟨k+1,sH,sQ,by show _=_;rw[hI.out,hd.out];simp[AU,he],sM⟩
    case measure=>simp[intOf];omega
   ·go_wp2;go_returns;go_light;refine⟨?_,sM⟩;rw[hI.out,hd.out];simp[AU,he]
  ·obtain rfl:k=n:=sH;go_wp2;go_returns;go_light;refine⟨?_,hB⟩;rw[hI.out,Ze (by rw[hb.out];exact Zd _)];rfl
end
section
open Go Go.RowKit
variable{a b:Ow}
theorem gD_ (a:Ow):Bl a a=false:=by simp[Bl,cn_]
theorem ly_ (h:Bl a b=true):Bl b a=false:=by
 by_cases h1:a.a=b.a
 ·by_cases h2:a.v=b.v
  ·simp only[Bl,h1,h2,ne_eq,not_true,if_false] at h ⊢;exact jU_ h
  ·simp only[Bl,h1,ne_eq,not_true,if_false,h2,not_false_eq_true,if_true,ZU] at h;simp only[Bl,h1,ne_eq,not_true,if_false,if_pos (Ne.symm h2),YU];omega
 ·simp only[Bl,ne_eq,h1,not_false_eq_true,if_true,ZU] at h;simp only[Bl,ne_eq,if_pos (Ne.symm h1),YU];omega
def Hl (x y:Int):Int:=if x<y then -1 else if y<x then 1 else 0
def K8 (x y:ByteArray):Int:=if bl x.toList y.toList=true then -1 else if x.toList=y.toList then 0 else 1
def or3 (x y z:Int):Int:=if x≠0 then x else if y≠0 then y else z
def Gn (a b:Ow):Int:=or3 (Hl a.a b.a) (Hl a.v b.v) (K8 a.f b.f)
theorem i6_ (a b:Ow):decide (Gn a b<0)=Bl a b:=by
 rw[YH,jW_,ZU];unfold Gn or3 Hl K8;rcases Int.lt_trichotomy a.a b.a with h | h | h
 ·rw[if_pos h,if_pos sJ];constructor
  ·intro _;exact .inl h
  ·intro _;decide
 ·rw[h,if_neg (Int.lt_irrefl _),if_neg (Int.lt_irrefl _),if_neg sJ];rcases Int.lt_trichotomy a.v b.v with k | k | k
  ·rw[if_pos k,if_pos sJ];constructor
   ·intro _;exact .inr ⟨rfl,.inl k⟩
   ·intro _;decide
  ·rw[k,if_neg (Int.lt_irrefl _),if_neg (Int.lt_irrefl _),if_neg sJ]
   cases h5:bl a.f.toList b.f.toList
   ·constructor
    ·intro e;rw[if_neg sJ] at e;split at e<;>omega
    ·rintro (e | ⟨_,e | ⟨_,e⟩⟩)
     ·omega
     ·omega
     ·cases e
   ·constructor
    ·intro _;exact .inr ⟨rfl,.inr ⟨rfl,rfl⟩⟩
    ·intro _;rw[if_pos rfl];decide
  ·rw[if_neg (show ¬ a.v<b.v by omega),if_pos k,if_pos sJ];constructor
   ·intro e;omega
   ·rintro (e | ⟨_,e | ⟨_,e⟩⟩)<;>omega
 ·rw[if_neg (show ¬ a.a<b.a by omega),if_pos h,if_pos sJ];constructor
  ·intro e;omega
  ·rintro (e | ⟨e,_⟩)<;>omega
end
section
open Go Go.RowKit Go.BigFrame Tryz
variable{l:List Ex}
def Small (n:Nat)(l:List Ex):Prop:=n<=1048576∧∀ e∈l,e.d.size<=1048576
theorem Small.strs {n:Nat}(h:Small n l):Strs l:=fun e he=>by have:=h.2 e he;omega
end
section
open Go Go.RowKit Tryz
variable{α:Type}{b k n r:Nat}{l:List α}
theorem az_ (l:List Pt)(h:∀ p∈l,Al p=true):0<=Ar l:=by
 induction l with
 |nil=>simp[Ar]
 |cons p r ih=>
  have h1:=av_ (h p sK);have h2:=ih (fun x hx=>h x rv);simp[Ar];omega
theorem a5_ (a b:List Pt):Ar (a++b)=Ar a+Ar b:=by
 induction a with
 |nil=>simp[Ar]
 |cons p r ih=>simp[Ar,ih];omega
theorem gc_ {l:List Pt}{p:Pt}(h:l[k]?=some p):Ar (l.take (k+1))=Ar (l.take k)+p.n:=by
 rw[bx_ h,a5_];simp[Ar]
theorem a6_ {l:List Pt}(h:∀ p∈l,Al p=true)(k:Nat):0<=Ar (l.take k)∧Ar (l.take k)<=Ar l:=by
 have h1:=az_ (l.take k) (fun p hp=>h p (ZX hp));have h2:=az_ (l.drop k) (fun p hp=>h p (List.mem_of_mem_drop hp));have h3:=a5_ (l.take k) (l.drop k);rw[YM] at h3;omega
end
section
open Go Go.RowKit
variable{α:Type}{b n:Nat}{a:Option Addr}{t:TypeId}{w:World}{cs:α->List Value}
theorem pV_ {p:Pt}(h0:w.cell? ⟨b,0,none⟩=some (.int .i64 p.a))(h1:w.cell? ⟨b,1,none⟩=some (.int .i64 p.f))(h2:w.cell? ⟨b,2,none⟩=some (.int .i64 p.n)):BH w (some ⟨b,0,none⟩) 1 [p]:=by
 refine⟨rfl,fun i x hx=>⟨b,0,rfl,fun j v hv=>?_⟩⟩;have hi:i=0:=rP;subst hi;simp at hx;subst hx
 match j,hv with
 |0,hv=>obtain rfl:=Zi hv;exact h0
 |1,hv=>obtain rfl:=Zi hv;exact h1
 |2,hv=>obtain rfl:=Zi hv;exact h2
 |j+3,hv=>simp[Pt.cs] at hv
theorem ck_ (w:World)(p:Pt)(t:TypeId)(b:Nat)(hb:b=w.heap.size):BH (w.alloc (.cells #[.int .i64 p.a,.int .i64 p.f,.int .i64 p.n] t)) (some ⟨b,0,none⟩) 1 [p]:=by subst hb;exact pV_ sK sK sK
end
section
open Go Go.RowKit Go.BigFrame Tryz
def Fd (addr:Int)(l:List Ex):List Ex:=l.filter (fun e=>!(e.a==addr))
def NE (size:Int)(l:List Ex)(addr:Int):Option (List Ex):=if Af size l=true∧(Fd addr l).length≠l.length then some (Fd addr l) else none
end
section
open Go Go.RowKit Tryz
variable{b:Nat}{t:TypeId}{w:World}
theorem ce9 {v0 v1 v2 v3 v4 v5 v6 v7 v8: Value}(h : Blk w b #[v0, v1, v2, v3, v4, v5, v6, v7, v8] t) : w.cell? ⟨b, 0, none⟩ = some v0 ∧ w.cell? ⟨b, 1, none⟩ = some v1 ∧ w.cell? ⟨b, 2, none⟩ = some v2 ∧ w.cell? ⟨b, 3, none⟩ = some v3 ∧ w.cell? ⟨b, 4, none⟩ = some v4 ∧ w.cell? ⟨b, 5, none⟩ = some v5 ∧ w.cell? ⟨b, 6, none⟩ = some v6 ∧ w.cell? ⟨b, 7, none⟩ = some v7 ∧ w.cell? ⟨b, 8, none⟩ = some v8 := ⟨h.cell 0, h.cell 1, h.cell 2, h.cell 3, h.cell 4, h.cell 5, h.cell 6, h.cell 7, h.cell 8⟩
end
end Go.Proofs.YteejlahappbalaaGreatDoor
