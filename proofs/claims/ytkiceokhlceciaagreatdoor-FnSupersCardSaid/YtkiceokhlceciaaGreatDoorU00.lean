/- Plain functions over lists, and what it says that a slice in memory holds a list: the ground of this seat's proofs. -/
import Derived.Handy
import Derived.Deep.Light
import Derived.Deep.RegionHeld3
import Derived.BigQuiet
import Derived.WalkSmall
import Derived.Lib.AppendZerosOnto
import Derived.Deep.RegionLaw
import Derived.Laws.AppendOwnNone
import Derived.Laws.Cover1
import Derived.Test.YtkiceokhlceciaaGreatDoorProg
set_option maxHeartbeats 20000000
set_option maxRecDepth 100000
namespace Go.Proofs.YtkiceokhlceciaaGreatDoor
section
open Go Go.RowKit
abbrev Za:=@Array.getElem?_setIfInBounds_ne
abbrev Zb:=@List.getElem?_eq_some_iff
abbrev Zc:=@List.mem_of_getElem?
abbrev Zd:=@Nat.le_refl
abbrev Ze:=@List.drop_of_length_le
abbrev Zf:=@Bool.and_eq_true
abbrev Zg:=@Nat.zero_le
abbrev Zi:=@Option.some.inj
abbrev Zj:=@Bool.false_eq_true
abbrev Zk:=@List.take_of_length_le
abbrev Zl:=@Nat.le_trans
abbrev Zm:=@Nat.le_of_eq
abbrev Zn:=@List.mem_cons
abbrev Zo:=@Option.some.injEq
abbrev Zp:=@Bool.true_and
abbrev Zq:=@Nat.zero_add
abbrev Zr:=@Bool.false_and
abbrev Zs:=@List.mem_append
abbrev Zt:=@List.eq_nil_of_length_eq_zero
abbrev Zu:=@ByteArray.toList_eq
abbrev Zv:=@List.getElem?_append_right
abbrev Zw:=@List.length_cons
abbrev Zx:=@List.getElem?_set_self
abbrev Zy:=@Nat.lt_of_lt_of_le
abbrev Zz:=@List.length_take
abbrev ZA:=@List.findIdx?_eq_some_iff_getElem
abbrev ZB:=@Nat.lt_succ_self
abbrev ZC:=@List.append_assoc
abbrev ZD:=@List.getElem?_append_left
abbrev ZE:=@List.length_append
abbrev ZF:=@List.flatMap_cons
abbrev ZG:=@Array.getElem?_eq_some_iff
abbrev ZH:=@List.filter_cons
abbrev ZI:=@List.getElem?_eq_getElem
abbrev ZJ:=@List.getElem?_set_ne
abbrev ZK:=@List.take_add_one
abbrev ZL:=@List.mem_flatMap
abbrev ZM:=@List.nil_append
abbrev ZN:=@List.any_eq_true
abbrev ZO:=@Bool.and_assoc
abbrev ZP:=@List.take_succ_cons
abbrev ZQ:=@List.flatMap_append
abbrev ZR:=@List.drop_succ_cons
abbrev ZS:=@Nat.mul_le_mul_right
abbrev ZT:=@List.mem_map
abbrev ZU:=@decide_eq_true_eq
abbrev ZV:=@beq_eq_false_iff_ne
abbrev ZW:=@Option.map_eq_some_iff
abbrev ZX:=@List.mem_of_mem_take
abbrev ZY:=@List.mem_cons_of_mem
abbrev ZZ:=@Nat.min_eq_left
abbrev Ya:=@List.getElem?_take_of_lt
abbrev Yb:=@List.pairwise_iff_getElem
abbrev Yc:=@List.length_filter_le
abbrev Yd:=@Nat.add_mul
abbrev Ye:=@List.pairwise_cons
abbrev Yf:=@List.nodup_append
abbrev Yg:=@Below.refl
abbrev Yh:=@World.grownBy.refl
abbrev Yi:=@Below.grown
abbrev Yj:=@List.setIfInBounds_toArray
abbrev Yk:=@World.block_lt_of_cell?
abbrev Yl:=@World.grownBy_alloc
abbrev Ym:=@List.mem_append_right
abbrev Yo:=@List.getElem?_cons_zero
abbrev Yp:=@List.getElem?_toArray
abbrev Yq:=@List.set_cons_zero
abbrev Yr:=@List.set_cons_succ
abbrev Ys:=@IntKind.wrap_i64
abbrev Yt:=@List.getElem?_cons_succ
abbrev Yu:=@List.mem_append_left
abbrev Yv:=@World.cell?_alloc_new
abbrev Yw:=@Option.getD_some
abbrev Yx:=@List.take_zero
abbrev Yy:=@List.append_nil
abbrev Yz:=@WalkArith.wf_i64
abbrev YA:=@List.filter_eq_self
abbrev YB:=@Int.le_refl
abbrev YC:=@List.drop_zero
abbrev YD:=@List.map_cons
abbrev YE:=@List.foldl_cons
abbrev YF:=@List.cons_append
abbrev YG:=@List.mem_filter
abbrev YH:=@Bool.eq_iff_iff
abbrev YI:=@List.size_toArray
abbrev YJ:=@Oper.semAt_some
abbrev YK:=@List.length_nil
abbrev YM:=@List.take_append_drop
abbrev YN:=@World.size_alloc
abbrev YO:=@Option.bind_some
abbrev YP:=@List.mem_singleton
abbrev YQ:=@List.mem_filterMap
abbrev YR:=@List.filter_append
abbrev YS:=@List.getElem_of_mem
abbrev YT:=@List.Pairwise.nil
abbrev YU:=@decide_eq_false_iff_not
abbrev YV:=@decide_eq_false
abbrev YW:=@bodyPost_ret
abbrev YX:=@run_callFunc_extern
abbrev YY:=@run_underlying
end
section
open Go Go.RowKit
variable{n:Nat}{a:Option Addr}
structure Pt where
 a:Int
 f:Int
 n:Int
def Pt.cs (p:Pt):List Value:=[.int .i64 p.a,.int .i64 p.f,.int .i64 p.n]
structure Ex where
 a:Int
 d:ByteArray
def Ex.cs (p:Ex):List Value:=[.int .i64 p.a,.string p.d]
end
section
open Go Go.RowKit
variable{α:Type}{b i n o sz:Nat}{a:Option Addr}{v:Value}{w:World}{l:List α}
variable{cs:α->List Value}
structure AX {α:Type}(cs:α->List Value)(sz:Nat)(w:World)(a:Option Addr)(n:Nat)(l:List α):Prop where
 len:l.length=n
 cell:∀ i x,l[i]?=some x->∃ b o,a=some ⟨b,o,none⟩∧∀ j v,(cs x)[j]?=some v->w.cell? ⟨b,o+i*sz+j,none⟩=some v
abbrev BI:=AX Pt.cs 3
abbrev BZ:=AX Ex.cs 2
abbrev Mo:=AX (fun x:Int=>[Value.int .i64 x]) 1
end
section
open Go Go.RowKit Tryz
variable{c:Array Value}{b:Nat}{t:TypeId}{w:World}
def Blk (w:World)(b:Nat)(c:Array Value)(t:TypeId):Prop:=w.heap[b]?=some (.cells c t)
theorem Blk.lt (h:Blk w b c t):b<w.heap.size:=(ZG.1 h).1
theorem Blk.cell (h:Blk w b c t)(i:Nat):w.cell? ⟨b,i,none⟩=c[i]?:=by
 unfold Blk at h;simp[World.cell?,h]
theorem Blk.has (h:Blk w b c t){i:Nat}(hi:i<c.size):∃ v,w.cell? ⟨b,i,none⟩=some v:=⟨c[i],by rw[h.cell];simp[hi]⟩
end
section
open Go Go.RowKit
variable{α:Type}{B b cap n sz:Nat}{a:Option Addr}{t:TypeId}{w:World}{l:List α}{cs:α->List Value}
structure Ad {α:Type}(cs:α->List Value)(sz:Nat)(t:TypeId)(w:World)(B:Nat)(a:Option Addr)(n cap:Nat)(l:List α):Prop where
 sl:AX cs sz w a n l
 own:(a=none∧n=0∧cap=0)∨∃ b,a=some ⟨b,0,none⟩∧B<=b∧n<=cap∧cap<=maxLen∧∃ c,Blk w b c t∧c.size=cap*sz∧c.toList.take (n*sz)=l.flatMap cs
theorem Ad.block (h:Ad cs sz t w B a n cap l):∀ ad,a=some ad->B<=ad.block∧ad.block<w.heap.size:=by
 intro ad ha;rcases h.own with⟨rfl,_⟩ | ⟨b,rfl,hB,_,_,c,hc,_⟩
 ·cases ha
 ·cases ha
  exact⟨hB,hc.lt⟩
end
section
open Go Go.RowKit
structure Ow where
 a:Int
 v:Int
 f:ByteArray
end
section
open Go Go.RowKit
variable{a b:Ow}
structure Ct where
 o:Ow
 n:Int
def Ow.vs (o:Ow):Array Value:=#[.int .i64 o.a,.int .i64 o.v,.string o.f]
def Ct.cs (c:Ct):List Value:=[.int .i64 c.o.a,.int .i64 c.o.v,.string c.o.f,.int .i64 c.n]
abbrev A8:=AX Ct.cs 4
abbrev bl:=Op.bytesLess
theorem jV_ {x y:ByteArray}(h:x.toList=y.toList):x=y:=by
 rw[Zu,Zu] at h
 cases x;cases y
 congr 1;exact Array.toList_inj.1 h
def BV (a b:Ow):Bool:=a.a==b.a&&a.v==b.v&&a.f.toList==b.f.toList
theorem aM_:BV a b=true↔a=b:=by
 constructor
 ·intro h;simp[BV] at h;obtain⟨⟨h1,h2⟩,h3⟩:=h
  cases a;cases b
  simp at *;exact⟨h1,h2,jV_ h3⟩
 ·rintro rfl;simp[BV]
end
section
open Go Go.RowKit
variable{α:Type}{n:Nat}{a:Option Addr}{l:List α}
def Ao (p:Pt):Bool:=if p.a==0 then p.f==0&&decide (1<=p.n) else decide (1<=p.a)&&decide (p.a<=400)&&decide (0<=p.f)&&decide (p.f<20)&&decide (1<=p.n)&&decide (p.n<=20-p.f)
def Be (p q:Pt):Bool:=q.a==p.a&&(q.a==0||q.f==wrap64 (p.f+p.n))
def pgo:Option Pt->Int->List Pt->Bool
 |_,_,[]=>true
 |none,left,p::r=>Ao p&&decide (p.n<=left)&&pgo (some p) (left-p.n) r
 |some q,left,p::r=>Ao p&&decide (p.n<=left)&&!Be q p&&pgo (some p) (left-p.n) r
def Ae (l:List Pt):Bool:=decide (l.length<=16)&&pgo none 100 l
theorem av_ {p:Pt}(h:Ao p=true):1<=p.n:=by
 unfold Ao at h;split at h<;>simp at h<;>omega
end
section
open Go.RowKit Go.Lib
def zs (k:Nat):ByteArray:=⟨(List.replicate k (0:UInt8)).toArray⟩
end
section
open Go Go.RowKit Go.BigFrame Tryz
variable{l:List Ex}
def Ei (c:UInt8):Bool:=decide (32<=(c.toNat:Int))&&decide ((c.toNat:Int)<=126)
def plainB (d:ByteArray):Bool:=d.data.toList.all Ei
def Aw (d:ByteArray):Bool:=decide (1<=d.size)&&decide (d.size<=20)&&plainB d
def xgo (size:Int):Int->List Ex->Bool
 |_,[]=>true
 |next,e::r=>Aw e.d&&decide (next<=e.a)&&decide (e.a<=size+1-e.d.size)&&xgo size (e.a+e.d.size) r
def Am (size:Int)(l:List Ex):Bool:=decide (1<=size)&&decide (size<=400)&&decide (l.length<=60)&&xgo size 1 l
end
section
open Go Go.RowKit Go.BigFrame Tryz
def A6 (addr:Int):List Ex->ByteArray
 |[]=>⟨#[]⟩
 |e::r=>if e.a==addr then e.d else A6 addr r
def DT (e:List Ex)(p:Pt):Option ByteArray:=
 if p.a==0 then some (zs p.n.toNat) else if ((A6 p.a e).size:Int)<p.f+p.n then none else some ((A6 p.a e).extract p.f.toNat (p.f+p.n).toNat)
def cgo (e:List Ex):ByteArray->List Pt->Option ByteArray
 |acc,[]=>some acc
 |acc,p::r=>match DT e p with
  |none=>none
  |some d=>cgo e (acc++d) r
def AP (l:List Pt)(e:List Ex):Option ByteArray:=if Ae l=true∧Am 400 e=true then cgo e ⟨#[]⟩ l else none
theorem jR_:∀ {l:List Pt} {q:Option Pt} {left:Int},pgo q left l=true->left<=100->∀ p∈l,Ao p=true∧p.n<=100
 |[],_,_,_,_=>by simp
 |p::r,q,left,h,hl=>by
  have h2:Ao p=true∧p.n<=left∧pgo (some p) (left-p.n) r=true:=by
   cases q
   ·simp only[pgo,Zf,ZU] at h;exact⟨h.1.1,h.1.2,h.2⟩
   ·simp only[pgo,Zf,ZU] at h;exact⟨h.1.1.1,h.1.1.2,h.2⟩
  intro x hx;rcases Zn.1 hx with rfl | hx
  ·exact⟨h2.1,by omega⟩
  ·exact jR_ h2.2.2 (by have:=av_ h2.1;omega) x hx
end
section
open Go Go.RowKit
variable{a b:Ow}
def Bk (a b:Ow):Bool:=if a.a≠b.a then decide (a.a<b.a) else if a.v≠b.v then decide (a.v<b.v) else bl a.f.toList b.f.toList
end
section
open Go Go.RowKit
theorem ac_ {x y:Bool}(h:x=y):Ending.returned (.bool x)=.returned (.bool y):=by rw[h]
end
section
open Go Go.RowKit
variable{α:Type}{b i:Nat}{a:Option Addr}{l:List α}
theorem lsA {α:Type _}{a:List α}{x:α}:a.toArray.setIfInBounds i x=(a.set i x).toArray:=Yj ..
theorem lsB {α:Type _}{a b:α}{l:List α}:(a::l).set 0 b=b::l:=Yq ..
theorem lsC {α:Type _}{a b:α}{l:List α}:(a::l).set (i+1) b=a::l.set i b:=Yr ..
end
section
open Go Go.RowKit
variable{α:Type}{b i n o sz:Nat}{a:Option Addr}{v:Value}{W w w' w1:World}{l:List α}
variable{cs:α->List Value}
theorem Ab (hb:Below W.heap.size W w1)(h:W.cell? ⟨b,o,none⟩=some v):w1.cell? ⟨b,o,none⟩=some v:=by
 rw[hb.cell (p:=⟨b,o,none⟩) (Yk W _ h)];exact h
theorem AX.below (h:AX cs sz w a n l)(hb:Below w.heap.size w w'):AX cs sz w' a n l:=
 ⟨h.len,fun i x hx=>by
  obtain⟨b,o,ha,hc⟩:=h.cell i x hx;exact⟨b,o,ha,fun j v hv=>Ab hb (hc j v hv)⟩⟩
theorem AX.alloc (h:AX cs sz w a n l)(x:Obj):AX cs sz (w.alloc x) a n l:=
 h.below ((Yg _ _).alloc (Zd _) _)
theorem AX.drew (h:AX cs sz w a n l):AX cs sz w.drew a n l:=
 h.below ((Yg _ _).drew)
theorem Bi (w:World)(n:Nat):Below w.heap.size w (w.drewN n):=below_drewN (Yg _ _) n
end
section
open Go Go.RowKit Tryz
variable{α:Type}{c:Array Value}{b n r sz:Nat}{t:TypeId}{w w':World}{l:List α}{cs:α->List Value}
theorem Blk.frozen (h:Blk w b c t)(i:Nat):w.frozen? ⟨b,i,none⟩=false:=by
 unfold Blk at h;simp[World.frozen?,h]
theorem Blk.new (w:World)(c:Array Value)(t:TypeId):Blk (w.alloc (.cells c t)) w.heap.size c t:=heap_alloc_new w _
theorem Blk.below (h:Blk w b c t)(hb:Below w.heap.size w w'):Blk w' b c t:=by
 unfold Blk;rw[hb.block b h.lt];exact h
theorem Blk.grown (h:Blk w b c t)(hg:w.grownBy w' (some r))(hr:b≠r):Blk w' b c t:=by
 unfold Blk;rw[hg.block b h.lt (by simpa using hr)];exact h
theorem Blk.alloc (h:Blk w b c t)(o:Obj):Blk (w.alloc o) b c t:=h.below ((Yg _ _).alloc (Zd _) _)
theorem Blk.drew (h:Blk w b c t):Blk w.drew b c t:=h
theorem AX.grown {a:Option Addr}(h:AX cs sz w a n l)(hg:w.grownBy w' (some r))(hr:∀ ad,a=some ad->ad.block≠r):AX cs sz w' a n l:=
 ⟨h.len,fun i x hx=>by
  obtain⟨b,o,ha,hc⟩:=h.cell i x hx;exact⟨b,o,ha,fun j v hv=>hg.cell (hc j v hv) (by have:=hr _ ha;simpa using this)⟩⟩
end
section
open Go Go.RowKit
variable{α:Type}{B b cap n sz:Nat}{o:Oper}{a:Option Addr}{t:TypeId}{w w':World}{l:List α}{cs:α->List Value}
theorem Ad.below (h:Ad cs sz t w B a n cap l)(hb:Below w.heap.size w w'):Ad cs sz t w' B a n cap l:=by
 refine⟨h.sl.below hb,?_⟩;rcases h.own with h0 | ⟨b,ha,hB,h1,h2,c,hc,q⟩
 ·exact .inl h0
 ·exact .inr ⟨b,ha,hB,h1,h2,c,hc.below hb,q⟩
theorem Ad.mono {B':Nat}(h:Ad cs sz t w B a n cap l)(hb:B'<=B):Ad cs sz t w B' a n cap l:=by
 refine⟨h.sl,?_⟩;rcases h.own with h0 | ⟨b,ha,hB,q⟩
 ·exact .inl h0
 ·exact .inr ⟨b,ha,by omega,q⟩
theorem Ad.grown {r:Nat}(h:Ad cs sz t w B a n cap l)(hg:w.grownBy w' (some r))(hr:∀ ad,a=some ad->ad.block≠r):Ad cs sz t w' B a n cap l:=by
 refine⟨h.sl.grown hg hr,?_⟩;rcases h.own with h0 | ⟨b,ha,hB,h1,h2,c,hc,q⟩
 ·exact .inl h0
 ·exact .inr ⟨b,ha,hB,h1,h2,c,hc.grown hg (hr _ ha),q⟩
theorem Ad.alloc (h:Ad cs sz t w B a n cap l)(o:Obj):Ad cs sz t (w.alloc o) B a n cap l:=h.below ((Yg _ _).alloc (Zd _) _)
theorem Blk.new' (w:World)(c:Array Value)(t:TypeId)(b:Nat)(hb:b=w.heap.size):Blk (w.alloc (.cells c t)) b c t:=by subst hb;exact Blk.new _ _ _
end
section
open Go Go.RowKit Tryz
variable{c:Array Value}{b k:Nat}{t:TypeId}{w w0:World}
theorem Blk.set (h:Blk w b c t)(i:Nat)(v:Value):Blk (w.setCell ⟨b,i,none⟩ v) b (c.setIfInBounds i v) t:=by
 unfold Blk at *;simp[World.setCell,Array.getElem?_modify,h]
theorem af_ (h:w0.grownBy w (some b))(i:Nat)(v:Value):w0.grownBy (w.setCell ⟨b,i,none⟩ v) (some b):=
 ⟨h.os,h.tape,h.output,by simpa[World.setCell] using h.size,fun k hk ha=>by
  rw[Below.heap_setCell _ _ _ _ (by simpa using ha)];exact h.block k hk ha⟩
end
section
open Go Go.RowKit
variable{α:Type}{i:Nat}{a:Option Addr}{l:List α}
theorem lgA {α:Type _}{a:List α}:a.toArray[i]?=a[i]?:=Yp ..
theorem lgB {α:Type _}{a:α}{l:List α}:(a::l)[0]?=some a:=Yo ..
theorem lgC {α:Type _}{a:α}{l:List α}:(a::l)[i+1]?=l[i]?:=Yt ..
end
section
open Go Go.RowKit
variable{α:Type}{args:Array Value}{b k n o:Nat}{a:Option Addr}{P:Program}{v:Value}{W w w' w1:World}{l:List α}
theorem Al (x:Obj)(h:w.cell? ⟨b,o,none⟩=some v):(w.alloc x).cell? ⟨b,o,none⟩=some v:=by
 rw[World.cell?_alloc_lt _ _ _ (Yk w _ h)];exact h
theorem bi_ {l:List Pt}(h:BI w a n l)(hk:k<n):
  ∃ b o p,a=some ⟨b,o,none⟩∧l[k]?=some p∧w.cell? ⟨b,o+k*3,none⟩=some (.int .i64 p.a)∧w.cell? ⟨b,o+k*3+1,none⟩=some (.int .i64 p.f)∧w.cell? ⟨b,o+k*3+2,none⟩=some (.int .i64 p.n):=by
 have hl:k<l.length:=by rw[h.len];exact hk
 have hx:l[k]?=some l[k]:=by simp[hl]
 obtain⟨b,o,ha,hc⟩:=h.cell k _ hx;exact⟨b,o,l[k],ha,hx,hc 0 _ rfl,hc 1 _ rfl,hc 2 _ rfl⟩
theorem be_ {l:List Ex}(h:BZ w a n l)(hk:k<n):
  ∃ b o p,a=some ⟨b,o,none⟩∧l[k]?=some p∧w.cell? ⟨b,o+k*2,none⟩=some (.int .i64 p.a)∧w.cell? ⟨b,o+k*2+1,none⟩=some (.string p.d):=by
 have hl:k<l.length:=by rw[h.len];exact hk
 have hx:l[k]?=some l[k]:=by simp[hl]
 obtain⟨b,o,ha,hc⟩:=h.cell k _ hx;exact⟨b,o,l[k],ha,hx,hc 0 _ rfl,hc 1 _ rfl⟩
theorem Aa {wr:World}(h:Below w.heap.size w wr)(k:Below wr.heap.size wr w1):Below w.heap.size w w1:=h.trans (k.mono h.size)
structure Grw (W:World) where
 w:World
 h:Below W.heap.size W w
theorem aA_ (W:World):Nonempty (Grw W):=⟨⟨W,Yg _ _⟩⟩
theorem ah_ (h:∃ x:Grw W,w'=x.w):Below W.heap.size W w':=by obtain⟨x,rfl⟩:=h;exact x.h
theorem Ac (h:W.cell? ⟨b,o,none⟩=some v):∀ x:Grw W,x.w.cell? ⟨b,o,none⟩=some v:=fun x=>Ab x.h h
theorem ab_ {id:Nat}{Q:Exit->Act->World->Prop}{a:Act}{l:List Oper}(hm:P.follows .mixedOrders=true)(hB:Region.lexB .any l.toArray=true)
  (h:wpQuiet P l.toArray (fun w'=>∃ x:Grw W,w'=x.w) (fun a'=>∀ w',(∃ x:Grw W,w'=x.w)->Q .normal a' w') l a):(Code.region id l.toArray true).wp P Q a W:=
 wp_region_quiet (C:=fun w'=>∃ x:Grw W,w'=x.w) hm hB ⟨⟨_,(Yg _ _).drew⟩,rfl⟩ (by simpa using h)
theorem an_ {f:FuncId}{x:Grw W}
  (h:Calls P f args x.w fun e w'=>e=.returned v∧Below x.w.heap.size x.w w'):Calls P f args x.w fun e w'=>e=.returned v∧∃ y:Grw W,w'=y.w:=
 h.mono fun _ w' ⟨he,hb⟩=>⟨he,⟨⟨w',Aa x.h hb⟩,rfl⟩⟩
theorem am_ {f:FuncId}{x:Grw W}
  (h:Calls P f args x.w fun e w'=>e=.returned v∧w'=x.w):Calls P f args x.w fun e w'=>e=.returned v∧∃ y:Grw W,w'=y.w:=
 h.mono fun _ _ ⟨he,hb⟩=>⟨he,⟨x,hb⟩⟩
theorem al_ {x:α}(h:l[k]?=some x):l.drop k=x::l.drop (k+1):=by
 obtain⟨hk,rfl⟩:=Zb.1 h;exact List.drop_eq_getElem_cons hk
theorem a4_ {k:IntKind}{a b:Int}(h:a=b):Ending.returned (.int k a)=.returned (.int k b):=by rw[h]
def ahead (l:List Pt)(k:Nat):Option Pt:=if k=0 then none else l[k-1]?
def Aj:List Pt->Int
 |[]=>0
 |p::r=>p.n+Aj r
theorem hh_ (l:List Pt):ahead l 0=none:=rfl
theorem b6_ (l:List Pt)(k:Nat):ahead l (k+1)=l[k]?:=by simp[ahead]
end
section
open Go.RowKit Go.Lib
variable{P:Program}
theorem ca_ (k:Nat):(zs k).size=k:=by simp[zs,ByteArray.size]
theorem jN_ (k:Nat):(strCells (zs k)).toArray=Builtin.zeroCells #[Value.int .u8 0] k:=by
 apply Array.ext';apply List.ext_getElem?;intro j;by_cases h:j<k
 ·simp[strCells,zs,Builtin.zeroCells,h];rw[Nat.mod_one];rfl
 ·simp[strCells,zs,Builtin.zeroCells,h]
theorem jO_ {w:World}{B e:Nat}{v:Value}{n:Nat}{s:ByteArray}(h:w.ownsRow B e 1 v n (strCells s))(src:TypeId)(hs:P.underlying src=some (.slice e))(he:P.underlying e=some (.int .u8)):
  ∀ dst,P.underlying dst=some .string->(convert src dst v).run P w=.ok (.string s) w:=by
 intro dst hd;have hn:n=s.size:=by have:=h.1;rw[strCells_length] at this;omega
 rcases h.2 with⟨rfl,h0⟩ | ⟨g,cap,cur,rfl,_,hg,hf,_,hc,hb⟩
 ·rw[run_convert_bytes_nil w src e hs he 0 0 dst hd]
  have:s.size=0:=by omega
  obtain⟨⟨l⟩⟩:=s;simp[ByteArray.size] at this;subst this;rfl
 ·have:=run_convert_bytes_arg (P:=P) w src e hs he g 0 n cap (s.data.toList.map fun b=>(b.toNat:Int)) (by rw[List.length_map,Array.length_toList,hn];rfl) (fun i hi=>by
   have h1:(strCells s)[i]?=some (.int .u8 ((s.data.toList.map fun b=>(b.toNat:Int)).getD i 0)):=by
    have ha:i<s.data.size:=by rw[hn] at hi;exact hi
    simp[strCells];exact⟨s.data[i],Array.getElem?_eq_getElem ha,by rw[Array.getElem?_eq_getElem ha];rfl⟩
   rw[<-hb,Nat.mul_one,Ya hi] at h1;simp only[World.cell?,hg,Zq];rw[<-h1];simp) dst hd
  rw[this];congr 2;obtain⟨⟨l⟩⟩:=s;simp[strOfNums];rw[show ((fun n:Int=>UInt8.ofNat n.toNat) ∘ fun b:UInt8=>(b.toNat:Int))=id from funext fun b=>by simp];simp
end
section
open Go Go.RowKit Tryz
variable{α:Type}{b k n r:Nat}{l:List α}
theorem cH_ (l:List Pt):∀ (q:Option Pt) (s:Int),0<=s->pgo q s l=true->(∀ p∈l,Ao p=true)∧Aj l<=s:=by
 induction l with
 |nil=>intro q s h0 _;exact⟨by simp,by simpa[Aj] using h0⟩
 |cons p r ih=>
  intro q s h0 h
  have hh:Ao p=true∧p.n<=s∧pgo (some p) (s-p.n) r=true:=by
   cases q
   ·simp[pgo] at h;exact⟨h.1.1,h.1.2,h.2⟩
   ·simp[pgo] at h;exact⟨h.1.1.1,h.1.1.2,h.2⟩
  obtain⟨a,b⟩:=ih (some p) (s-p.n) (by omega) hh.2.2;refine⟨?_,by simp[Aj];omega⟩;intro x hx;rcases Zn.1 hx with rfl | hx
  ·exact hh.1
  ·exact a x hx
theorem bx_ {x:α}(h:l[k]?=some x):l.take (k+1)=l.take k++[x]:=by
 rw[ZK,h];rfl
theorem ae_ {l:List Pt}(h:Ae l=true):l.length<=16∧(∀ p∈l,Ao p=true)∧Aj l<=100:=by
 simp[Ae] at h;exact⟨h.1,cH_ l none 100 (by omega) h.2⟩
end
section
open Go Go.RowKit Go.BigFrame Tryz
variable{l:List Ex}
theorem fH_ (s:ByteArray)(k:Nat)(h:k<s.size):s.data.toList.drop k=s[k]::s.data.toList.drop (k+1):=by
 rw[List.drop_eq_getElem_cons (by simpa using h)];rfl
def Dt (l:List Ex):Prop:=∀ e∈l,e.d.size<=9223372036854775807
theorem Dt.at (h:Dt l){k:Nat}{e:Ex}(he:l[k]?=some e):e.d.size<=9223372036854775807:=h e (Zc he)
end
section
open Go Go.RowKit
variable{α:Type}{K:Act->World->Prop}{ops:Array Oper}{Q:Exit->Act->World->Prop}{B b cap n sz:Nat}{o:Oper}{a:Option Addr}{P:Program}{t:TypeId}{w w':World}{l:List α}{cs:α->List Value}
theorem aY_ (hsz:∀ x,(cs x).length=sz)(l:List α):(l.flatMap cs).length=l.length*sz:=by
 induction l with
 |nil=>simp
 |cons x r ih=>simp[ih,hsz,Yd];omega
theorem i5_ (hsz:∀ x,(cs x).length=sz)(l:List α):∀ {i j:Nat} {x:α} {v:Value},l[i]?=some x->(cs x)[j]?=some v->(l.flatMap cs)[i*sz+j]?=some v:=by
 induction l with
 |nil=>intro i j x v h;simp at h
 |cons y r ih=>
  intro i j x v hx hv;have hj:j<sz:=by have:=(Zb.1 hv).1;rw[hsz] at this;exact this
  rw[ZF]
  cases i with
  |zero=>
   simp at hx;subst hx;rw[Nat.zero_mul,Zq,ZD (by rw[hsz];exact hj)];exact hv
  |succ i=>
   simp at hx;rw[Zv (by rw[hsz,Yd];omega),hsz];have e:(i+1)*sz+j-sz=i*sz+j:=by rw[Yd];omega
   rw[e];exact ih hx hv
theorem nY_ (hsz:∀ x,(cs x).length=sz)(l:List α):∀ {t:Nat} {v:Value},(l.flatMap cs)[t]?=some v->∃ i x j,l[i]?=some x∧(cs x)[j]?=some v∧t=i*sz+j:=by
 induction l with
 |nil=>intro t v h;simp at h
 |cons y r ih=>
  intro t v h;rw[ZF] at h;by_cases ht:t<sz
  ·rw[ZD (by rw[hsz];exact ht)] at h;exact⟨0,y,t,rfl,h,by omega⟩
  ·rw[Zv (by rw[hsz];omega),hsz] at h;obtain⟨i,x,j,h1,h2,h3⟩:=ih h;exact⟨i+1,x,j,by simpa using h1,h2,by rw[Yd];omega⟩
theorem AX.src (hsz:∀ x,(cs x).length=sz){o:Nat}(h:AX cs sz w (some ⟨b,o,none⟩) n l):
  ∀ j u,(l.flatMap cs)[j]?=some u->w.cell? ((⟨b,o,none⟩:Addr).add j)=some u:=by
 intro t u hu;obtain⟨i,x,j,h1,h2,rfl⟩:=nY_ hsz l hu;obtain⟨b',o',ha,hc⟩:=h.cell i x h1;obtain⟨rfl,rfl⟩:b=b'∧o=o':=by simpa using ha
 rw[Addr.add_lit,<-Nat.add_assoc];exact hc j u h2
theorem Ad.row (hsz:∀ x,(cs x).length=sz)(h:Ad cs sz t w B a n cap l):w.ownsRow B t sz (.slice a n cap) n (l.flatMap cs):=by
 refine⟨by rw[aY_ hsz,h.sl.len],?_⟩;rcases h.own with⟨rfl,rfl,rfl⟩ | ⟨b,rfl,hB,h1,h2,c,hc,hs,ht⟩
 ·exact .inl ⟨rfl,rfl⟩
 ·exact .inr ⟨b,cap,c,rfl,hB,hc,h1,h2,hs,ht⟩
theorem bz_ (hsz:∀ x,(cs x).length=sz){v:Value}(hn:l.length=n)(h:w.ownsRow B t sz v n (l.flatMap cs)):
  ∃ a cap,v=.slice a n cap∧Ad cs sz t w B a n cap l:=by
 obtain⟨_,h⟩:=h;rcases h with⟨rfl,rfl⟩ | ⟨g,cap,cur,rfl,hB,hh,h1,h2,hs,ht⟩
 ·exact⟨none,0,rfl,⟨hn,fun i x hx=>by rw[Zt hn] at hx;simp at hx⟩,.inl ⟨rfl,rfl,rfl⟩⟩
 ·refine⟨some ⟨g,0,none⟩,cap,rfl,⟨hn,fun i x hx=>⟨g,0,rfl,fun j u hu=>?_⟩⟩,.inr ⟨g,rfl,hB,h1,h2,cur,hh,hs,ht⟩⟩;have hb:Blk w g cur t:=hh;rw[hb.cell,Zq];have hf:=i5_ hsz l hx hu;rw[<-ht] at hf
  have ha:i*sz+j<n*sz:=by
   have:=(Zb.1 hf).1
   simp at this;omega
  rw[Ya ha] at hf;simpa using hf
theorem ay_ {size:Nat}{a:Act}
  (s x:Operand)(t:TypeId)(ho:o.op=.call {callee:=.builtin .append,args:=#[s,x],argTypes:=#[t,t]})
  (B:Nat)(e:TypeId)(i:TypeInfo)(z:Value)(bytes:Nat)(ht:P.underlying t=some (.slice e))(hi:P.info? e=some i)(hz:i.zero=some z)(hsize:i.size=size)(hby:i.bytes=bytes)(hzs:z.cells.size=size)(hpos:0<size)
  (hsz:∀ y,(cs y).length=size)(hone:∀ (l:List α),∀ u∈l.flatMap cs,u.oneCell'=true)
  (da:Option Addr)(dn dcap:Nat)(ld:List α)(hs:a.eval s=.slice da dn dcap)(hd:Ad cs size e w B da dn dcap ld)
  (sa:Option Addr)(sn scap:Nat)(ls:List α)(hx:a.eval x=.slice sa sn scap)(hsrc:AX cs size w sa sn ls)(hspot:∀ ad,sa=some ad->ad.spot=none)(hnone:sa=none->scap=0)
  (tot:Nat)(htot:dn+sn=tot)(h63:tot<=maxLen)(hbytes:tot*bytes<=140737488355328)(hbase:B<=w.heap.size)
  (h:∀ a' cap' w',Ad cs size e w' B a' tot cap' (ld++ls)->w.grownBy w' (Value.ownBlock (.slice da dn dcap))->K (a.put o.dst (.slice a' tot cap')) w'):o.wp P a w K Q:=by
 subst htot;have hc:=hd.row hsz;have he:(ld++ls).length=dn+sn:=by rw[ZE,hd.sl.len,hsrc.len]
 cases sa with
 |none=>
  have h0:sn=0:=by
   cases ls with
   |nil=>rw[<-hsrc.len];rfl
   |cons y r=>obtain⟨b,o',hb,_⟩:=hsrc.cell 0 y rfl;cases hb
  obtain rfl:=h0;obtain rfl:=hnone rfl;have hj:ls=[]:=Zt hsrc.len;subst hj;have hh:=run_append_owned_none (P:=P) w B t o.type e i size ht hi (.slice da dn dcap) dn (ld.flatMap cs) hc;unfold Oper.wp;simp[execOp,ho,resolve,invoke,builtin,hs,hx,hh,Result.andThen];exact h da dcap w (by simpa using hd) (Yh _ _)
 |some ad=>
  obtain⟨b,off,spot⟩:=ad
  have:=hspot _ rfl
  simp only at this;subst this;refine wp_append_own w s x t ho B e i z size bytes ht hi hz hsize hby hzs hpos (.slice da dn dcap) dn (ld.flatMap cs) hs hc ⟨b,off,none⟩ sn scap (ls.flatMap cs) hx (by rw[aY_ hsz,hsrc.len]) (AX.src hsz hsrc) (hone ls) h63 hbytes hbase ?_;intro v' w' ha hg _;rw[<-ZQ] at ha;obtain⟨a',cap',rfl,hf⟩:=bz_ hsz he ha;exact h a' cap' w' hf hg
theorem aJ_ {a:Act}{E:Prop}(hg:o.guard=none)(h:o.wp P a w K Q):
  if Region.wanted o (yielded ops a.tmps)=true then Oper.wp P o a w K Q else E:=by
 have hw:Region.wanted o (yielded ops a.tmps)=true:=by simp[Region.wanted,hg]
 rw[if_pos hw];exact h
theorem ag_ {rest:List Oper}{a:Act}(hg:o.guard=none)
  (h:∀ K:Act->World->Prop,(∀ a w,wpList P ops Q rest a w->K a w)->o.wp P a w K Q):wpList P ops Q (o::rest) a w:=wpList_plain hg h
theorem aB_:Ad cs sz t w B none 0 0 ([]:List α):=
 ⟨⟨rfl,fun i x hx=>by simp at hx⟩,.inl ⟨rfl,rfl,rfl⟩⟩
theorem aG_ (h:∀ ad,a=some ad->B<=ad.block):∀ k,Value.ownBlock (.slice a n cap)=some k->B<=k:=by
 intro k hk
 cases a with
 |none=>simp[Value.ownBlock] at hk
 |some ad=>have:=h ad rfl;simp[Value.ownBlock] at hk;omega
end
section
open Go Go.RowKit Go.BigFrame Tryz
theorem gd_ {l:List Pt}(h:Ae l=true):l.length<=16∧∀ p∈l,1<=p.n∧p.n<=100∧(p.a≠0->0<=p.f∧p.f<20):=by
 simp only[Ae,Zf,ZU] at h;refine⟨h.1,fun p hp=>?_⟩;obtain⟨h1,h2⟩:=jR_ h.2 (by omega) p hp;refine⟨av_ h1,h2,fun ha=>?_⟩;have hb:(p.a==0)=false:=by simpa using ha
 simp only[Ao,hb,Zj,if_false,Zf,ZU] at h1;omega
theorem ek_ {addr:Int}:∀ {e:List Ex},Dt e->(A6 addr e).size<=9223372036854775807
 |[],_=>by simp[A6,ByteArray.size]
 |x::r,h=>by
  unfold A6;split
  ·exact h x (by simp)
  ·exact ek_ (fun y hy=>h y (by simp[hy]))
end
section
open Go Go.RowKit
variable{a b:Ow}
theorem aN_ {w:World}{a:Option Addr}{n:Nat}{l:List Ct}(h:A8 w a n l){k:Nat}(hk:k<n):
  ∃ b o p,a=some ⟨b,o,none⟩∧l[k]?=some p∧w.cell? ⟨b,o+k*4,none⟩=some (.int .i64 p.o.a)∧w.cell? ⟨b,o+k*4+1,none⟩=some (.int .i64 p.o.v)∧w.cell? ⟨b,o+k*4+2,none⟩=some (.string p.o.f)∧w.cell? ⟨b,o+k*4+3,none⟩=some (.int .i64 p.n):=by
 have hl:k<l.length:=by rw[h.len];exact hk
 have hx:l[k]?=some l[k]:=by simp[hl]
 obtain⟨b,o,ha,hc⟩:=h.cell k _ hx;exact⟨b,o,l[k],ha,hx,hc 0 _ rfl,hc 1 _ rfl,hc 2 _ rfl,hc 3 _ rfl⟩
end
section
open Go Go.RowKit
variable{w w1:World}
theorem Fp {x y z:Value}{t:TypeId}(hb:Below (w.alloc (.cells #[x,y,z] t)).heap.size (w.alloc (.cells #[x,y,z] t)) w1):
  w1.cell? ⟨w.heap.size,0,none⟩=some x∧w1.cell? ⟨w.heap.size,1,none⟩=some y∧w1.cell? ⟨w.heap.size,2,none⟩=some z∧Below w.heap.size w w1∧w.heap.size<w1.heap.size:=
 ⟨Ab hb (Yv _ _ _ 0),Ab hb (Yv _ _ _ 1),Ab hb (Yv _ _ _ 2),
  ((Yg _ _).alloc (Zd _) _).trans (hb.mono (by simp)),by have:=hb.size;simp at this;omega⟩
end
section
open Go Go.RowKit
variable{α:Type}{cap n:Nat}{a:Option Addr}{l:List α}{cs:α->List Value}
theorem ej_ {x:Nat}(h:∀ ad,a=some ad->x<ad.block):some x≠Value.ownBlock (.slice a n cap):=by
 cases a with
 |none=>simp[Value.ownBlock]
 |some ad=>have:=h ad rfl;simp[Value.ownBlock];omega
theorem cI_ (l:List Pt):∀ u∈l.flatMap Pt.cs,u.oneCell'=true:=by
 intro u hu;obtain⟨p,_,hp⟩:=ZL.1 hu;simp[Pt.cs] at hp;rcases hp with rfl | rfl | rfl<;>rfl
end
section
open Go Go.RowKit Tryz
variable{α:Type}{b n r:Nat}{w w':World}{l:List α}
def sgo:Option Pt->Int->List Pt->Bool
 |_,s,[]=>decide (s<=100)
 |none,s,p::r=>(Ao p&&decide (p.n<=100))&&sgo (some p) (s+p.n) r
 |some q,s,p::r=>(Ao p&&decide (p.n<=100))&&!Be q p&&sgo (some p) (s+p.n) r
theorem nX_ (l:List Pt):∀ (q:Option Pt) (s:Int),100<s->sgo q s l=false:=by
 induction l with
 |nil=>intro q s h;cases q<;>simp[sgo]<;>omega
 |cons p r ih=>
  intro q s h
  cases hp:Ao p
  ·cases q<;>simp[sgo,hp]
  ·have:=av_ hp
   cases q<;>simp[sgo,ih _ (s+p.n) (by omega)]
theorem pe_ (l:List Pt):∀ (q:Option Pt) (s:Int),0<=s->s<=100->sgo q s l=pgo q (100-s) l:=by
 induction l with
 |nil=>intro q s h0 h1;cases q<;>simp[sgo,pgo]<;>omega
 |cons p r ih=>
  intro q s h0 h1
  cases hp:Ao p
  ·cases q<;>simp[sgo,pgo,hp]
  ·have hb:=av_ hp;by_cases hle:p.n<=100-s
   ·have e:=ih (some p) (s+p.n) (by omega) (by omega);have e2:100-(s+p.n)=100-s-p.n:=by omega
    have ha:p.n<=100:=by omega
    rw[e2] at e
    cases q<;>simp[sgo,pgo,hp,e,hle,ha]
   ·have e:=nX_ r (some p) (s+p.n) (by omega)
    cases q<;>simp[sgo,pgo,e,hle]
theorem ai_ (n lo hi:Int)(w:World):
  Calls prog 25 #[.int .i64 n,.int .i64 lo,.int .i64 hi] w fun e w'=>e=.returned (.bool (decide (lo<=n)&&decide (n<=hi)))∧w'=w:=by
 go_enter func25,ntmps25;go_wp2
 all_goals go_returns
 all_goals go_light
 all_goals refine⟨?_,rfl⟩
 all_goals simp_all
 all_goals try omega
theorem gC_ (p q:Pt)(w:World):
  Calls prog 141 #[.agg #[.int .i64 p.a,.int .i64 p.f,.int .i64 p.n],.agg #[.int .i64 q.a,.int .i64 q.f,.int .i64 q.n]] w fun e w'=>e=.returned (.bool (Be p q))∧Below w.heap.size w w':=by
 obtain⟨a,f,n⟩:=p;obtain⟨b,g,m⟩:=q;go_enter func141,ntmps141;go_wp2
 all_goals go_returns
 all_goals go_light
 all_goals refine⟨?_,by go_grown⟩
 all_goals simp_all [Be]
 all_goals first | (rw[YH];simp;omega) | omega
theorem cR_ (p:Pt)(w:World):
  Calls prog 140 #[.agg #[.int .i64 p.a,.int .i64 p.f,.int .i64 p.n]] w fun e w'=>e=.returned (.bool (Ao p&&decide (p.n<=100)))∧Below w.heap.size w w':=by
 obtain⟨a,f,n⟩:=p;go_enter func140,ntmps140;go_wp2
 all_goals go_returns
 all_goals go_light
 all_goals refine⟨?_,by go_grown⟩
 all_goals simp[Ao, *]
 all_goals try omega
 all_goals (rw[YH];simp;omega)
end
section
open Go Go.RowKit Go.BigFrame Tryz
variable{l:List Ex}
theorem a7_ (d:ByteArray)(w:World)(hd:d.size<=9223372036854775807):
  Calls prog 91 #[.string d] w fun e w'=>e=.returned (.bool (plainB d&&decide (d.size<=20)))∧w'=w:=by
 have ha:Hid (plainB d=(d.data.toList.drop 0).all Ei):=rfl;go_enter func91,ntmps91
 go_wp2_with fail
 go_loop [3] (fun ix=>∃ (k:Nat),k<=d.size∧ix=.int .i64 k∧Hid (plainB d=(d.data.toList.drop k).all Ei)) (fun ix=>d.size-(intOf ix).toNat)
 case atStart=>exact⟨0,Zg _,rfl,ha⟩
 case round=>
  obtain⟨k,hk,rfl,hI⟩:=hrel;by_cases hlt:k<d.size
  ·have hs:Hid (d.data.toList.drop k=d[k]::d.data.toList.drop (k+1)):=fH_ d k hlt
   cases hc:Ei d[k]
   ·have hb:(d[k].toNat:Int)<32∨126<(d[k].toNat:Int):=by simp[Ei] at hc;omega
    go_wp2
    all_goals go_returns
    all_goals go_light
    all_goals (refine⟨ac_ ?_,rfl⟩;rw[hI.out,hs.out];simp[hc])
   ·have hb:32<=(d[k].toNat:Int)∧(d[k].toNat:Int)<=126:=by simp[Ei] at hc;omega
    obtain⟨he,hf⟩:=hb;go_wp2;go_round
    case rel=>exact⟨k+1,by omega,by go_num,by show _=_;rw[hI.out,hs.out];simp[hc]⟩
    case measure=>simp[intOf];omega
  ·obtain rfl:k=d.size:=by omega
   go_wp2;go_returns;go_light;refine⟨ac_ ?_,rfl⟩;rw[hI.out,Ze (by simp)];rw[YH];simp;omega
theorem dz_ (d:ByteArray):Aw d=(decide (1<=d.size)&&(plainB d&&decide (d.size<=20))):=by
 unfold Aw;cases plainB d<;>cases decide (1<=d.size)<;>cases decide (d.size<=20)<;>rfl
theorem aT_ (size:Int)(a:Option Addr)(n cap:Nat)(l:List Ex)(w:World)(h:BZ w a n l)(hstr:Dt l)(hn:n<=4194304):
  Calls prog 50 #[.int .i64 size,.slice a n cap] w fun e w'=>e=.returned (.bool (Am size l))∧w'=w:=by
 have hc:Hid (l.length=n):=h.len;by_cases h0:1<=size∧size<=400∧n<=60
 ·have hb:Hid (Am size l=xgo size 1 (l.drop 0)):=by show _=_;simp[Am,hc.out,h0]
  obtain⟨h1,hl,hr⟩:=h0;have hh:(decide (1<=size)&&decide (size<=400))=true:=by simp[h1,hl]
  go_enter func50,ntmps50
  go_wp2_with fail
  refine (ai_ _ _ _ _).mono ?_;rintro e w1 ⟨rfl,rfl⟩;rw[hh]
  go_wp2_with fail
  go_loop [5,6] (fun nx ix=>∃ (k:Nat) (next:Int),k<=n∧ix=.int .i64 k∧nx=.int .i64 next∧1<=next∧next<=421∧Hid (Am size l=xgo size next (l.drop k))) (fun _ ix=>n-(intOf ix).toNat)
  case atStart=>exact⟨0,1,Zg _,rfl,rfl,by omega,by omega,hb⟩
  case round=>
   obtain⟨k,next,hk,rfl,rfl,hv,hw,hI⟩:=hrel;by_cases hlt:k<n
   ·obtain⟨b,o,p,rfl,hp,c0,c1⟩:=be_ h hlt;have hd:Hid (l.drop k=p::l.drop (k+1)):=al_ hp;have hj:=hstr.at hp;clear hp hh;by_cases hz:p.d.size=0
    ·have hq:((p.d.size:Int)==0)=true:=beq_iff_eq.2 (by omega);have ha:Hid (Aw p.d=false):=by show _=_;simp[Aw,hz]
     clear hz;go_wp2;go_returns;go_light;refine⟨ac_ ?_,rfl⟩;rw[hI.out,hd.out];simp[xgo,ha.out]
    ·have hq:((p.d.size:Int)==0)=false:=ZV.2 (by omega)
     cases he:(plainB p.d&&decide (p.d.size<=20))
     ·have ha:Hid (Aw p.d=false):=by show _=_;rw[dz_,he];simp
      go_wp2_with fail
      refine (a7_ p.d _ hj).mono ?_;rintro e w1 ⟨rfl,rfl⟩;rw[he];go_wp2;go_returns;go_light;refine⟨ac_ ?_,rfl⟩;rw[hI.out,hd.out];simp[xgo,ha.out]
     ·have hf:=he;simp at hf;have ha:Hid (Aw p.d=true):=by show _=_;rw[dz_,he];simp;omega
      have hu:p.d.size<=20:=hf.2;have ht:1<=p.d.size:=by omega
      clear hf
      cases hg:(decide (next<=p.a)&&decide (p.a<=size))
      ·go_wp2_with fail
       refine (a7_ p.d _ hj).mono ?_;rintro e w1 ⟨rfl,rfl⟩;rw[he]
       go_wp2_with fail
       refine (ai_ _ _ _ _).mono ?_;rintro e w1 ⟨rfl,rfl⟩;rw[hg];go_wp2;go_returns;go_light;refine⟨ac_ ?_,rfl⟩;simp at hg;rw[hI.out,hd.out];simp[xgo,ha.out];omega
      ·have hm:=hg;simp at hm;obtain⟨ho,hs⟩:=hm;by_cases hok:p.a+p.d.size-1<=size
       ·go_wp2_with fail
        refine (a7_ p.d _ hj).mono ?_;rintro e w1 ⟨rfl,rfl⟩;rw[he]
        go_wp2_with fail
        refine (ai_ _ _ _ _).mono ?_;rintro e w1 ⟨rfl,rfl⟩;rw[hg];go_wp2;go_round
        case rel=>exact⟨k+1,p.a+p.d.size,by omega,by go_num,by go_num,by omega,by omega,by show _=_;rw[hI.out,hd.out];have:p.a<=size+1-p.d.size:=by omega
                                                                                           simp[xgo,ha.out,ho,this]⟩
        case measure=>simp[intOf];omega
       ·go_wp2_with fail
        refine (a7_ p.d _ hj).mono ?_;rintro e w1 ⟨rfl,rfl⟩;rw[he]
        go_wp2_with fail
        refine (ai_ _ _ _ _).mono ?_;rintro e w1 ⟨rfl,rfl⟩;rw[hg];go_wp2;go_returns;go_light;refine⟨ac_ ?_,rfl⟩;rw[hI.out,hd.out];simp[xgo,ha.out];omega
   ·obtain rfl:k=n:=by omega
    go_wp2;go_returns;go_light;refine⟨ac_ ?_,rfl⟩;rw[hI.out,Ze (Zm hc.out)];rfl
 ·have hb:Hid (Am size l=false):=by show _=_;have:=hc.out;simp[Am];omega
  cases hh:(decide (1<=size)&&decide (size<=400))
  all_goals
   go_enter func50,ntmps50
   go_wp2_with fail
   refine (ai_ _ _ _ _).mono ?_;rintro e w1 ⟨rfl,rfl⟩;rw[hh];simp at hh;go_wp2
   all_goals go_returns
   all_goals go_light
   all_goals exact⟨ac_ hb.out.symm,rfl⟩
end
section
open Go Go.RowKit
variable{α:Type}{B b sz:Nat}{t:TypeId}{w:World}{cs:α->List Value}
theorem aw_ (hb:Blk w b #[] t)(hB:B<=b):Ad cs sz t w B (some ⟨b,0,none⟩) 0 0 ([]:List α):=
 ⟨⟨rfl,fun i x hx=>by simp at hx⟩,.inr ⟨b,rfl,hB,Zd _,Zg _,#[],hb,by simp,by simp⟩⟩
end
section
open Go Go.RowKit Go.BigFrame Tryz
def atG (addr:Int):Nat->List Ex->Int
 |_,[]=>-1
 |k,e::r=>if e.a==addr then (k:Int) else atG addr (k+1) r
theorem iC_ (a:Option Addr)(n cap:Nat)(l:List Ex)(addr:Int)(w:World)(h:BZ w a n l)(hn:n<=4194304):
  Calls prog 56 #[.slice a n cap,.int .i64 addr] w fun e w'=>e=.returned (.int .i64 (atG addr 0 l))∧w'=w:=by
 have ha:Hid (l.length=n):=h.len;go_enter func56,ntmps56
 go_wp2_with fail
 go_loop [5] (fun ix=>∃ (k:Nat),k<=n∧ix=.int .i64 k∧Hid (atG addr 0 l=atG addr k (l.drop k))) (fun ix=>n-(intOf ix).toNat)
 case atStart=>exact⟨0,Zg _,rfl,rfl⟩
 case round=>
  obtain⟨k,hk,rfl,hI⟩:=hrel;by_cases hlt:k<n
  ·obtain⟨b,o,p,rfl,hp,c0,c1⟩:=be_ h hlt;have hd:Hid (l.drop k=p::l.drop (k+1)):=al_ hp;clear hp
   cases he:(p.a==addr)
   ·go_wp2;go_round
    case rel=>exact⟨k+1,by omega,by go_num,by show _=_;rw[hI.out,hd.out];simp only[atG,he,Zj,if_false]⟩
    case measure=>simp[intOf];omega
   ·go_wp2;go_returns;go_light;refine⟨a4_ ?_,rfl⟩;rw[hI.out,hd.out];simp only[atG,he,if_true]
  ·obtain rfl:k=n:=by omega
   go_wp2;go_returns;go_light;refine⟨a4_ ?_,rfl⟩;rw[hI.out,Ze (Zm ha.out)];rfl
end
section
open Go Go.RowKit Tryz
variable{b k:Nat}{w w':World}
theorem ao_ {w1:World}(hb:Below w.heap.size w w1)(hg:w1.grownBy w' (some b))(hn:w.heap.size<=b):Below w.heap.size w w':=
 hb.grown hg hb.size (fun k e=>by cases e;exact hn)
end
end Go.Proofs.YtkiceokhlceciaaGreatDoor
