/- Plain functions over lists, and what it says that a slice in memory holds a list: the ground of this seat's proofs. -/
import Derived.Test.YtkiceokhlceciaaGreatDoorU00
set_option maxHeartbeats 20000000
set_option maxRecDepth 100000
namespace Go.Proofs.YtkiceokhlceciaaGreatDoor
section
open Go Go.RowKit
variable{α:Type}{b k n o:Nat}{a:Option Addr}{w:World}{l:List α}
theorem nW_ {l:List Int}(h:Mo w a n l)(hk:k<n):
  ∃ b o p,a=some ⟨b,o,none⟩∧l[k]?=some p∧w.cell? ⟨b,o+k,none⟩=some (.int .i64 p):=by
 have hl:k<l.length:=by rw[h.len];exact hk
 have hx:l[k]?=some l[k]:=by simp[hl]
 obtain⟨b,o,ha,hc⟩:=h.cell k _ hx;exact⟨b,o,l[k],ha,hx,by simpa using hc 0 _ rfl⟩
end
section
open Go Go.RowKit Tryz
variable{α:Type}{c:Array Value}{b k n r:Nat}{t:TypeId}{w:World}{l:List α}
theorem az_ (l:List Pt)(h:∀ p∈l,Ao p=true):0<=Aj l:=by
 induction l with
 |nil=>simp[Aj]
 |cons p r ih=>
  have h1:=av_ (h p (by simp));have h2:=ih (fun x hx=>h x (by simp[hx]));simp[Aj];omega
theorem a5_ (a b:List Pt):Aj (a++b)=Aj a+Aj b:=by
 induction a with
 |nil=>simp[Aj]
 |cons p r ih=>simp[Aj,ih];omega
theorem gc_ {l:List Pt}{p:Pt}(h:l[k]?=some p):Aj (l.take (k+1))=Aj (l.take k)+p.n:=by
 rw[bx_ h,a5_];simp[Aj]
theorem a6_ {l:List Pt}(h:∀ p∈l,Ao p=true)(k:Nat):0<=Aj (l.take k)∧Aj (l.take k)<=Aj l:=by
 have h1:=az_ (l.take k) (fun p hp=>h p (ZX hp));have h2:=az_ (l.drop k) (fun p hp=>h p (List.mem_of_mem_drop hp));have h3:=a5_ (l.take k) (l.drop k);rw[YM] at h3;omega
theorem fz6 (h : Blk w b c t) : w.frozen? ⟨b, 0, none⟩ = false ∧ w.frozen? ⟨b, 1, none⟩ = false ∧ w.frozen? ⟨b, 2, none⟩ = false ∧ w.frozen? ⟨b, 3, none⟩ = false ∧ w.frozen? ⟨b, 4, none⟩ = false ∧ w.frozen? ⟨b, 5, none⟩ = false := ⟨h.frozen 0, h.frozen 1, h.frozen 2, h.frozen 3, h.frozen 4, h.frozen 5⟩
theorem ce9 {v0 v1 v2 v3 v4 v5 v6 v7 v8: Value}(h : Blk w b #[v0, v1, v2, v3, v4, v5, v6, v7, v8] t) : w.cell? ⟨b, 0, none⟩ = some v0 ∧ w.cell? ⟨b, 1, none⟩ = some v1 ∧ w.cell? ⟨b, 2, none⟩ = some v2 ∧ w.cell? ⟨b, 3, none⟩ = some v3 ∧ w.cell? ⟨b, 4, none⟩ = some v4 ∧ w.cell? ⟨b, 5, none⟩ = some v5 ∧ w.cell? ⟨b, 6, none⟩ = some v6 ∧ w.cell? ⟨b, 7, none⟩ = some v7 ∧ w.cell? ⟨b, 8, none⟩ = some v8 := ⟨h.cell 0, h.cell 1, h.cell 2, h.cell 3, h.cell 4, h.cell 5, h.cell 6, h.cell 7, h.cell 8⟩
end
section
open Go Go.RowKit
variable{α:Type}{b n:Nat}{a:Option Addr}{t:TypeId}{w:World}{l:List α}{cs:α->List Value}
theorem bF_ (p:Pt):p.cs.length=3:=rfl
theorem aK_ (p:Ex):p.cs.length=2:=rfl
theorem mw_ (x:Int):[Value.int .i64 x].length=1:=rfl
theorem aU_ (l:List Ex):∀ u∈l.flatMap Ex.cs,u.oneCell'=true:=by
 intro u hu;obtain⟨p,_,hp⟩:=ZL.1 hu;simp[Ex.cs] at hp;rcases hp with rfl | rfl<;>rfl
theorem pV_ {p:Pt}(h0:w.cell? ⟨b,0,none⟩=some (.int .i64 p.a))(h1:w.cell? ⟨b,1,none⟩=some (.int .i64 p.f))(h2:w.cell? ⟨b,2,none⟩=some (.int .i64 p.n)):BI w (some ⟨b,0,none⟩) 1 [p]:=by
 refine⟨rfl,fun i x hx=>⟨b,0,rfl,fun j v hv=>?_⟩⟩;have hi:i=0:=by have:=(Zb.1 hx).1;simp at this;exact this
 subst hi;simp at hx;subst hx
 match j,hv with
 |0,hv=>obtain rfl:=Zi hv;exact h0
 |1,hv=>obtain rfl:=Zi hv;exact h1
 |2,hv=>obtain rfl:=Zi hv;exact h2
 |j+3,hv=>simp[Pt.cs] at hv
theorem ck_ (w:World)(p:Pt)(t:TypeId)(b:Nat)(hb:b=w.heap.size):BI (w.alloc (.cells #[.int .i64 p.a,.int .i64 p.f,.int .i64 p.n] t)) (some ⟨b,0,none⟩) 1 [p]:=by subst hb;exact pV_ (by simp) (by simp) (by simp)
end
section
open Go Go.RowKit Go.BigFrame Tryz
theorem KJ:(prog.info? 77).map (fun i=>(i.zero,i.size,i.bytes))=some (some (.agg #[.int .i64 0,.string .empty]),2,24):=by kernel_rfl
theorem c9_ (w:World)(p:Ex)(t:TypeId)(b:Nat)(hb:b=w.heap.size):BZ (w.alloc (.cells #[.int .i64 p.a,.string p.d] t)) (some ⟨b,0,none⟩) 1 [p]:=by
 subst hb;refine⟨rfl,fun i x hx=>⟨w.heap.size,0,rfl,fun j v hv=>?_⟩⟩;have hi:i=0:=by have:=(Zb.1 hx).1;simp at this;exact this
 subst hi;simp at hx;subst hx
 match j,hv with
 |0,hv=>obtain rfl:=Zi hv;simp
 |1,hv=>obtain rfl:=Zi hv;simp
 |j+2,hv=>simp[Ex.cs] at hv
def DZ (addr:Int)(l:List Ex):List Ex:=l.filter (fun e=>!(e.a==addr))
def Jh (size:Int)(l:List Ex)(addr:Int):Option (List Ex):=if Am size l=true∧(DZ addr l).length≠l.length then some (DZ addr l) else none
end
section
open Go Go.RowKit Tryz
variable{b k:Nat}{w w' w0:World}
theorem au_ (h:w0.grownBy w (some b))(hb:Below w.heap.size w w'):w0.grownBy w' (some b):=
 ⟨hb.os.trans h.os,hb.tape.trans h.tape,hb.output.trans h.output,Zl h.size hb.size,fun k hk ha=>by
  rw[hb.block k (Zy hk h.size)];exact h.block k hk ha⟩
theorem aV_ (h:w0.grownBy w (some b))(hb:w.grownBy w' (some b)):w0.grownBy w' (some b):=
 ⟨hb.os.trans h.os,hb.tape.trans h.tape,hb.output.trans h.output,Zl h.size hb.size,fun k hk ha=>by
  rw[hb.block k (Zy hk h.size) ha];exact h.block k hk ha⟩
end
section
open Go Go.RowKit Go.BigFrame Tryz
variable{l:List Ex}
def Kp (n:Nat)(l:List Ex):Prop:=n<=1048576∧∀ e∈l,e.d.size<=1048576
theorem Kp.strs {n:Nat}(h:Kp n l):Dt l:=fun e he=>by have:=h.2 e he;omega
end
end Go.Proofs.YtkiceokhlceciaaGreatDoor
