/- An op carried out upon a right pool. -/
import Derived.Lib.SliceRun
import Derived.Lib.Overlaps
import Derived.Laws.CopyOwn
import Derived.Shelf.SlSortCmp.NoneTotal
import Derived.Maps.RangeWalk
import Derived.WideKeyEntry
import Derived.Deep.DeepCutAuto
import Derived.Laws.EntriesVeiled
import Derived.Stop.Asserts
import Derived.Test.YteejlahappbalaaGreatDoorU03
set_option maxHeartbeats 20000000
set_option maxRecDepth 100000
namespace Go.Proofs.YteejlahappbalaaGreatDoor
section
open Go Go.RowKit Go.BigFrame Tryz
variable{n:Nat}{a:Option Addr}
structure IQ where
 nm:ByteArray
 a:Option Addr
 n:Nat
 c:Nat
end
section
open Go Go.RowKit Go.BigFrame Tryz
variable{n:Nat}{a:Option Addr}
variable{irs:List IQ}
structure VQ where
 id:Int
 nm:ByteArray
 fx:Bool
 a:Option Addr
 n:Nat
 c:Nat
 irs:List IQ
end
section
open Go Go.RowKit Go.BigFrame Tryz
variable{α β:Type}{ad:Addr}{B i n:Nat}{a:Option Addr}{row:Option Nat}{p:Po}{v:Value}{w w':World}{l:List α}{m:List β}
variable{irs:List IQ}
variable{x:IQ}
variable{r:VQ}
variable{vr:List VQ}
def IQ.cs (x:IQ):List Value:=[.string x.nm,.slice x.a x.n x.c]
def VQ.cs (x:VQ):List Value:=[.int .i64 x.id,.string x.nm,.bool x.fx,.slice x.a x.n x.c]
abbrev tI:TypeId:=125
abbrev tV:TypeId:=115
abbrev tP:TypeId:=156
abbrev tE:TypeId:=111
abbrev tC:TypeId:=70
inductive Al2 {α β:Type} (R:α->β->Prop):List α->List β->Prop
 |nil:Al2 R [] []
 |cons {x:α} {y:β} {l:List α} {m:List β}:R x y->Al2 R l m->Al2 R (x::l) (y::m)
theorem Al2.len {R:α->β->Prop}(h:Al2 R l m):l.length=m.length:=by
 induction h with
 |nil=>rfl
 |cons _ _ ih=>simp[ih]
theorem Al2.imp {R S:α->β->Prop}(h:Al2 R l m)(hS:∀ x∈l,∀ y,R x y->S x y):Al2 S l m:=by
 induction h with
 |nil=>exact .nil
 |cons hr _ ih=>exact .cons (hS _ sK _ hr) (ih fun x hx=>hS x rv)
structure ItR (w:World)(B:Nat)(r:IQ)(x:It):Prop where
 nm:r.nm=x.nm
 ps:Ac Pt.cs 3 tP w B r.a r.n r.c x.ps
structure VoR (w:World)(B:Nat)(r:VQ)(v:Vo):Prop where
 id:r.id=v.id
 nm:r.nm=v.nm
 fx:r.fx=v.fx
 rows:Ac IQ.cs 2 tI w B r.a r.n r.c r.irs
 its:Al2 (ItR w B) r.irs v.its
def Di (a:Option Addr):Option Nat:=a.map (·.block)
def FT (l:List VQ):List Nat:=l.filterMap fun r=>Di r.a
def EX (l:List VQ):List Nat:=l.flatMap fun r=>r.irs.filterMap fun x=>Di x.a
structure AK (B:Nat)(w:World)(v:Value)(p:Po):Prop where
 out:∃ ea en ec va vn vc ra rn rc la ln lc vr,v=.agg #[.int .i64 p.size,.int .i64 p.next,.slice ea en ec,.slice va vn vc,.slice ra rn rc,.slice la ln lc]∧
  Ac Ex.cs 2 tE w B ea en ec p.ex∧Ac VQ.cs 4 tV w B va vn vc vr∧Ac Ct.cs 4 tC w B ra rn rc p.rf∧Ac Ct.cs 4 tC w B la ln lc p.lt∧
  (∀ x y,ra=some x->la=some y->x.block≠y.block)∧Al2 (VoR w B) vr p.vs∧(FT vr).Nodup∧(EX vr).Nodup
theorem ItR.below {r:IQ}{x:It}(h:ItR w B r x)(hb:Below w.heap.size w w'):ItR w' B r x:=⟨h.nm,h.ps.below hb⟩
theorem VoR.below {v:Vo}(h:VoR w B r v)(hb:Below w.heap.size w w'):VoR w' B r v:=⟨h.id,h.nm,h.fx,h.rows.below hb,h.its.imp fun _ _ _ h=>h.below hb⟩
theorem AK.below (h:AK B w v p)(hb:Below w.heap.size w w'):AK B w' v p:=by
 obtain⟨ea,en,ec,va,vn,vc,ra,rn,rc,la,ln,lc,vr,e,h1,h2,h3,h4,h5,h6,h7,h8⟩:=h.out;exact⟨ea,en,ec,va,vn,vc,ra,rn,rc,la,ln,lc,vr,e,h1.below hb,h2.below hb,h3.below hb,h4.below hb,h5,h6.imp fun _ _ _ h=>h.below hb,h7,h8⟩
theorem ItR.ty {t:TypeId}{r:IQ}{x:It}(h:ItR w B r x)(hg:w.grownBy w' row)(hr:BC w row t)(ht:tP≠t):ItR w' B r x:=⟨h.nm,h.ps.ty hg hr ht⟩
theorem VoR.ty {t:TypeId}{v:Vo}(h:VoR w B r v)(hg:w.grownBy w' row)(hr:BC w row t)(h1:tI≠t)(h2:tP≠t):VoR w' B r v:=⟨h.id,h.nm,h.fx,h.rows.ty hg hr h1,h.its.imp fun _ _ _ h=>h.ty hg hr h2⟩
theorem Al2.at {R:α->β->Prop}(h:Al2 R l m):∀ {i:Nat} {y:β},m[i]?=some y->∃ x,l[i]?=some x∧R x y:=by
 induction h with
 |nil=>intro i y hy;simp at hy
 |cons hr _ ih=>
  intro i y hy
  cases i with
  |zero=>obtain rfl:=Zi hy;exact⟨_,rfl,hr⟩
  |succ i=>exact ih hy
theorem Al2.snoc {R:α->β->Prop}{x:α}{y:β}(h:Al2 R l m)(hr:R x y):Al2 R (l++[x]) (m++[y]):=by
 induction h with
 |nil=>exact .cons hr .nil
 |cons h1 _ ih=>exact .cons h1 ih
theorem o7_ {l:List VQ}(hr:r∈l)(ha:r.a=some ad):ad.block∈FT l:=by
 unfold FT;exact YQ.2 ⟨r,hr,by simp[Di,ha]⟩
theorem o8_ {l:List VQ}(hr:r∈l)(hx:x∈r.irs)(ha:x.a=some ad):ad.block∈EX l:=by
 unfold EX;exact ZL.2 ⟨r,hr,YQ.2 ⟨x,hx,by simp[Di,ha]⟩⟩
end
section
open Go.RowKit Go.Extern.Stop Go.Stop Go.Extern Tryz
def hnd (t:Nat):Value:=.pointer (some ⟨9,t,none⟩)
end
end Go.Proofs.YteejlahappbalaaGreatDoor
