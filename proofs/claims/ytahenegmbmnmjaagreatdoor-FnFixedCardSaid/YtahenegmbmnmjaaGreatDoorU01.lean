/- Plain functions over lists, and what it says that a slice in memory holds a list: the ground of this seat's proofs. -/
import Derived.RangeFuncNested
import Derived.RangeFuncBound
import Derived.Shelf.RegionOpen
import Derived.OwnWalkIn
import Derived.LoopNIn
import Derived.LoopIn
import Derived.Maps.AppendAt
import Derived.StillTailTactics
import Derived.Test.YtahenegmbmnmjaaGreatDoorU00
set_option maxHeartbeats 20000000
set_option maxRecDepth 100000
namespace Go.Proofs.YtahenegmbmnmjaaGreatDoor
section
open Go Go.RowKit
variable{α:Type}{K:Act->World->Prop}{ops:Array Oper}{Q:Exit->Act->World->Prop}{B b cap n sz:Nat}{o:Oper}{a:Option Addr}{P:Program}{t:TypeId}{w w':World}{l:List α}{cs:α->List Value}
theorem ay_ {size:Nat}{a:Act}
  (s x:Operand)(t:TypeId)(ho:o.op=.call {callee:=.builtin .append,args:=#[s,x],argTypes:=#[t,t]})
  (B:Nat)(e:TypeId)(i:TypeInfo)(z:Value)(bytes:Nat)(ht:P.underlying t=some (.slice e))(hi:P.info? e=some i)(hz:i.zero=some z)(hsize:i.size=size)(hby:i.bytes=bytes)(hzs:z.cells.size=size)(hpos:0<size)
  (hsz:∀ y,(cs y).length=size)(hone:∀ (l:List α),∀ u∈l.flatMap cs,u.oneCell'=true)
  (da:Option Addr)(dn dcap:Nat)(ld:List α)(hs:a.eval s=.slice da dn dcap)(hd:Ae cs size e w B da dn dcap ld)
  (sa:Option Addr)(sn scap:Nat)(ls:List α)(hx:a.eval x=.slice sa sn scap)(hsrc:AF cs size w sa sn ls)(hspot:∀ ad,sa=some ad->ad.spot=none)(hnone:sa=none->scap=0)
  (tot:Nat)(htot:dn+sn=tot)(h63:tot<=maxLen)(hbytes:tot*bytes<=140737488355328)(hbase:B<=w.heap.size)
  (h:∀ a' cap' w',Ae cs size e w' B a' tot cap' (ld++ls)->w.grownBy w' (Value.ownBlock (.slice da dn dcap))->K (a.put o.dst (.slice a' tot cap')) w'):o.wp P a w K Q:=by
 subst htot;have hc:=hd.row hsz;have he:(ld++ls).length=dn+sn:=by rw[ZE,hd.sl.len,hsrc.len]
 cases sa with
 |none=>
  have h0:sn=0:=by
   cases ls with
   |nil=>rw[<-hsrc.len];rfl
   |cons y r=>obtain⟨b,o',hb,_⟩:=hsrc.cell 0 y rfl;cases hb
  obtain rfl:=h0;obtain rfl:=hnone rfl;have hj:ls=[]:=Zt hsrc.len;subst hj;have hh:=run_append_owned_none (P:=P) w B t o.type e i size ht hi (.slice da dn dcap) dn (ld.flatMap cs) hc;unfold Oper.wp;simp[execOp,ho,resolve,invoke,builtin,hs,hx,hh,Result.andThen];exact h da dcap w (by simpa using hd) (Yh _ _)
 |some ad=>
  obtain⟨b,off,spot⟩:=ad
  have:=hspot _ rfl
  simp only at this;subst this;refine wp_append_own w s x t ho B e i z size bytes ht hi hz hsize hby hzs hpos (.slice da dn dcap) dn (ld.flatMap cs) hs hc ⟨b,off,none⟩ sn scap (ls.flatMap cs) hx (by rw[aY_ hsz,hsrc.len]) (AF.src hsz hsrc) (hone ls) h63 hbytes hbase ?_;intro v' w' ha hg _;rw[<-ZQ] at ha;obtain⟨a',cap',rfl,hf⟩:=bz_ hsz he ha;exact h a' cap' w' hf hg
theorem aJ_ {a:Act}{E:Prop}(hg:o.guard=none)(h:o.wp P a w K Q):
  if Region.wanted o (yielded ops a.tmps)=true then Oper.wp P o a w K Q else E:=by
 have hw:Region.wanted o (yielded ops a.tmps)=true:=by simp[Region.wanted,hg]
 rw[if_pos hw];exact h
theorem ag_ {rest:List Oper}{a:Act}(hg:o.guard=none)
  (h:∀ K:Act->World->Prop,(∀ a w,wpList P ops Q rest a w->K a w)->o.wp P a w K Q):wpList P ops Q (o::rest) a w:=wpList_plain hg h
theorem aw_ (hb:Blk w b #[] t)(hB:B<=b):Ae cs sz t w B (some ⟨b,0,none⟩) 0 0 ([]:List α):=
 ⟨⟨rfl,fun i x hx=>by simp at hx⟩,.inr ⟨b,rfl,hB,Zd _,Zg _,#[],hb,by simp,by simp⟩⟩
theorem aB_:Ae cs sz t w B none 0 0 ([]:List α):=
 ⟨⟨rfl,fun i x hx=>by simp at hx⟩,.inl ⟨rfl,rfl,rfl⟩⟩
theorem Ae.grown {r:Nat}(h:Ae cs sz t w B a n cap l)(hg:w.grownBy w' (some r))(hr:∀ ad,a=some ad->ad.block≠r):Ae cs sz t w' B a n cap l:=by
 refine⟨h.sl.grown hg hr,?_⟩;rcases h.own with h0 | ⟨b,ha,hB,h1,h2,c,hc,q⟩
 ·exact .inl h0
 ·exact .inr ⟨b,ha,hB,h1,h2,c,hc.grown hg (hr _ ha),q⟩
theorem Ae.alloc (h:Ae cs sz t w B a n cap l)(o:Obj):Ae cs sz t (w.alloc o) B a n cap l:=h.below ((Yg _ _).alloc (Zd _) _)
theorem pV_ {p:Pt}(h0:w.cell? ⟨b,0,none⟩=some (.int .i64 p.a))(h1:w.cell? ⟨b,1,none⟩=some (.int .i64 p.f))(h2:w.cell? ⟨b,2,none⟩=some (.int .i64 p.n)):AN w (some ⟨b,0,none⟩) 1 [p]:=by
 refine⟨rfl,fun i x hx=>⟨b,0,rfl,fun j v hv=>?_⟩⟩;have hi:i=0:=by have:=(Zb.1 hx).1;simp at this;exact this
 subst hi;simp at hx;subst hx
 match j,hv with
 |0,hv=>obtain rfl:=Zi hv;exact h0
 |1,hv=>obtain rfl:=Zi hv;exact h1
 |2,hv=>obtain rfl:=Zi hv;exact h2
 |j+3,hv=>simp[Pt.cs] at hv
theorem ej_ {x:Nat}(h:∀ ad,a=some ad->x<ad.block):some x≠Value.ownBlock (.slice a n cap):=by
 cases a with
 |none=>simp[Value.ownBlock]
 |some ad=>have:=h ad rfl;simp[Value.ownBlock];omega
theorem aG_ (h:∀ ad,a=some ad->B<=ad.block):∀ k,Value.ownBlock (.slice a n cap)=some k->B<=k:=by
 intro k hk
 cases a with
 |none=>simp[Value.ownBlock] at hk
 |some ad=>have:=h ad rfl;simp[Value.ownBlock] at hk;omega
theorem Blk.new' (w:World)(c:Array Value)(t:TypeId)(b:Nat)(hb:b=w.heap.size):Blk (w.alloc (.cells c t)) b c t:=by subst hb;exact Blk.new _ _ _
theorem ck_ (w:World)(p:Pt)(t:TypeId)(b:Nat)(hb:b=w.heap.size):AN (w.alloc (.cells #[.int .i64 p.a,.int .i64 p.f,.int .i64 p.n] t)) (some ⟨b,0,none⟩) 1 [p]:=by subst hb;exact pV_ (by simp) (by simp) (by simp)
end
section
open Go Go.RowKit Go.BigFrame Tryz
def atG (addr:Int):Nat->List Ex->Int
 |_,[]=>-1
 |k,e::r=>if e.a==addr then (k:Int) else atG addr (k+1) r
theorem iC_ (a:Option Addr)(n cap:Nat)(l:List Ex)(addr:Int)(w:World)(h:Bf w a n l)(hn:n<=4194304):
  Calls prog 99 #[.slice a n cap,.int .i64 addr] w fun e w'=>e=.returned (.int .i64 (atG addr 0 l))∧w'=w:=by
 have ha:Hid (l.length=n):=h.len;go_enter func99,ntmps99
 go_wp2_with fail
 go_loop [5] (fun ix=>∃ (k:Nat),k<=n∧ix=.int .i64 k∧Hid (atG addr 0 l=atG addr k (l.drop k))) (fun ix=>n-(intOf ix).toNat)
 case atStart=>exact⟨0,Zg _,rfl,rfl⟩
 case round=>
  obtain⟨k,hk,rfl,hI⟩:=hrel;by_cases hlt:k<n
  ·obtain⟨b,o,p,rfl,hp,c0,c1⟩:=be_ h hlt;have hd:Hid (l.drop k=p::l.drop (k+1)):=al_ hp;clear hp
   cases he:(p.a==addr)
   ·go_wp2;go_round
    case rel=>exact⟨k+1,by omega,by go_num,by show _=_;rw[hI.out,hd.out];simp only[atG,he,Zj,if_false]⟩
    case measure=>simp[intOf];omega
   ·go_wp2;go_returns;go_light;refine⟨a4_ ?_,rfl⟩;rw[hI.out,hd.out];simp only[atG,he,if_true]
  ·obtain rfl:k=n:=by omega
   go_wp2;go_returns;go_light;refine⟨a4_ ?_,rfl⟩;rw[hI.out,Ze (Zm ha.out)];rfl
theorem Fj:(prog.info? 76).map (fun i=>(i.zero,i.size,i.bytes))=some (some (.agg #[.int .i64 0,.string .empty]),2,24):=by kernel_rfl
theorem c9_ (w:World)(p:Ex)(t:TypeId)(b:Nat)(hb:b=w.heap.size):Bf (w.alloc (.cells #[.int .i64 p.a,.string p.d] t)) (some ⟨b,0,none⟩) 1 [p]:=by
 subst hb;refine⟨rfl,fun i x hx=>⟨w.heap.size,0,rfl,fun j v hv=>?_⟩⟩;have hi:i=0:=by have:=(Zb.1 hx).1;simp at this;exact this
 subst hi;simp at hx;subst hx
 match j,hv with
 |0,hv=>obtain rfl:=Zi hv;simp
 |1,hv=>obtain rfl:=Zi hv;simp
 |j+2,hv=>simp[Ex.cs] at hv
def Cx (addr:Int)(l:List Ex):List Ex:=l.filter (fun e=>!(e.a==addr))
def ES (size:Int)(l:List Ex)(addr:Int):Option (List Ex):=if Ao size l=true∧(Cx addr l).length≠l.length then some (Cx addr l) else none
def AM (addr:Int):List Ex->ByteArray
 |[]=>⟨#[]⟩
 |e::r=>if e.a==addr then e.d else AM addr r
def pieceO (e:List Ex)(p:Pt):Option ByteArray:=
 if p.a==0 then some (zs p.n.toNat) else if ((AM p.a e).size:Int)<p.f+p.n then none else some ((AM p.a e).extract p.f.toNat (p.f+p.n).toNat)
def cgo (e:List Ex):ByteArray->List Pt->Option ByteArray
 |acc,[]=>some acc
 |acc,p::r=>match pieceO e p with
  |none=>none
  |some d=>cgo e (acc++d) r
def Ak (l:List Pt)(e:List Ex):Option ByteArray:=if Ac l=true∧Ao 400 e=true then cgo e ⟨#[]⟩ l else none
theorem jR_:∀ {l:List Pt} {q:Option Pt} {left:Int},pgo q left l=true->left<=100->∀ p∈l,Ag p=true∧p.n<=100
 |[],_,_,_,_=>by simp
 |p::r,q,left,h,hl=>by
  have h2:Ag p=true∧p.n<=left∧pgo (some p) (left-p.n) r=true:=by
   cases q
   ·simp only[pgo,Zf,ZU] at h;exact⟨h.1.1,h.1.2,h.2⟩
   ·simp only[pgo,Zf,ZU] at h;exact⟨h.1.1.1,h.1.1.2,h.2⟩
  intro x hx;rcases Zn.1 hx with rfl | hx
  ·exact⟨h2.1,by omega⟩
  ·exact jR_ h2.2.2 (by have:=av_ h2.1;omega) x hx
theorem gd_ {l:List Pt}(h:Ac l=true):l.length<=16∧∀ p∈l,1<=p.n∧p.n<=100∧(p.a≠0->0<=p.f∧p.f<20):=by
 simp only[Ac,Zf,ZU] at h;refine⟨h.1,fun p hp=>?_⟩;obtain⟨h1,h2⟩:=jR_ h.2 (by omega) p hp;refine⟨av_ h1,h2,fun ha=>?_⟩;have hb:(p.a==0)=false:=by simpa using ha
 simp only[Ag,hb,Zj,if_false,Zf,ZU] at h1;omega
theorem ek_ {addr:Int}:∀ {e:List Ex},BS e->(AM addr e).size<=9223372036854775807
 |[],_=>by simp[AM,ByteArray.size]
 |x::r,h=>by
  unfold AM;split
  ·exact h x (by simp)
  ·exact ek_ (fun y hy=>h y (by simp[hy]))
theorem jS_ (a:Option Addr)(n cap:Nat)(l:List Ex)(addr:Int)(w:World)(h:Bf w a n l)(hn:n<=4194304):
  Calls prog 90 #[.slice a n cap,.int .i64 addr] w fun e w'=>e=.returned (.string (AM addr l))∧Below w.heap.size w w':=by
 have hb:Hid (l.length=n):=h.len;have ha:Hid (AM addr l=AM addr (l.drop 0)):=rfl;generalize AM addr l=R at *;go_enter func90,ntmps90
 go_wp2_with fail
 go_loopw [9] (fun ix wr=>∃ (k:Nat),k<=n∧ix=.int .i64 k∧Hid (R=AM addr (l.drop k))∧Below w.heap.size w wr) (fun ix _=>n-(intOf ix).toNat)
 case atStart=>exact⟨0,Zg _,rfl,ha,Yg _ _⟩
 case round=>
  obtain⟨k,hk,rfl,hI,hB⟩:=hrel;have hc:=hB.size;by_cases hlt:k<n
  ·obtain⟨b,o,p,rfl,hp,c0,c1⟩:=be_ (h.below hB) hlt;have hd:Hid (l.drop k=p::l.drop (k+1)):=al_ hp
   cases he:(p.a==addr)
   ·go_wp2;go_roundw
    case rel=>exact⟨k+1,by omega,by go_num,by show _=_;rw[hI.out,hd.out];simp[AM,he],by go_grown⟩
    case measure=>simp[intOf];omega
   ·go_wp2;go_returns;go_light;refine⟨?_,by go_grown⟩;rw[hI.out,hd.out];simp[AM,he]
  ·obtain rfl:k=n:=by omega
   go_wp2;go_returns;go_light;refine⟨?_,hB⟩;rw[hI.out,Ze (by rw[hb.out];exact Zd _)];rfl
end
section
open Go Go.RowKit
structure Ow where
 a:Int
 v:Int
 f:ByteArray
end
section
open Go Go.RowKit
variable{a b:Ow}
structure Ct where
 o:Ow
 n:Int
def Ow.vs (o:Ow):Array Value:=#[.int .i64 o.a,.int .i64 o.v,.string o.f]
def Ct.cs (c:Ct):List Value:=[.int .i64 c.o.a,.int .i64 c.o.v,.string c.o.f,.int .i64 c.n]
abbrev A5:=AF Ct.cs 4
theorem aN_ {w:World}{a:Option Addr}{n:Nat}{l:List Ct}(h:A5 w a n l){k:Nat}(hk:k<n):
  ∃ b o p,a=some ⟨b,o,none⟩∧l[k]?=some p∧w.cell? ⟨b,o+k*4,none⟩=some (.int .i64 p.o.a)∧w.cell? ⟨b,o+k*4+1,none⟩=some (.int .i64 p.o.v)∧w.cell? ⟨b,o+k*4+2,none⟩=some (.string p.o.f)∧w.cell? ⟨b,o+k*4+3,none⟩=some (.int .i64 p.n):=by
 have hl:k<l.length:=by rw[h.len];exact hk
 have hx:l[k]?=some l[k]:=by simp[hl]
 obtain⟨b,o,ha,hc⟩:=h.cell k _ hx;exact⟨b,o,l[k],ha,hx,hc 0 _ rfl,hc 1 _ rfl,hc 2 _ rfl,hc 3 _ rfl⟩
abbrev bl:=Op.bytesLess
theorem cn_:∀ x:List UInt8,bl x x=false
 |[]=>rfl
 |a::x=>by simp[bl,Op.bytesLess];exact cn_ x
theorem jT_:∀ {x y:List UInt8},bl x y=false->x≠y->bl y x=true
 |[],[],_,h=>absurd rfl h
 |[],b::y,h,_=>by simp[bl,Op.bytesLess] at h
 |a::x,[],_,_=>rfl
 |a::x,b::y,h,hne=>by
  simp only[bl,Op.bytesLess,Bool.or_eq_false_iff,Bool.and_eq_false_iff,YU] at h;obtain⟨h1,h2⟩:=h;simp only[bl,Op.bytesLess,Bool.or_eq_true,Zf,ZU,beq_iff_eq];by_cases hab:a=b
  ·subst hab;right;refine⟨rfl,jT_ (h2.resolve_left (by simp)) (fun e=>hne (by rw[e]))⟩
  ·left;have ha:b.toNat<=a.toNat:=by simpa[UInt8.lt_iff_toNat_lt] using h1
   have:a.toNat≠b.toNat:=fun e=>hab (UInt8.toNat_inj.1 e)
   rw[UInt8.lt_iff_toNat_lt];omega
theorem jU_:∀ {x y:List UInt8},bl x y=true->bl y x=false
 |[],[],h=>by simp[bl,Op.bytesLess] at h
 |[],b::y,_=>rfl
 |a::x,[],h=>by simp[bl,Op.bytesLess] at h
 |a::x,b::y,h=>by
  simp only[bl,Op.bytesLess,Bool.or_eq_true,Zf,ZU,beq_iff_eq] at h;simp only[bl,Op.bytesLess,Bool.or_eq_false_iff,Bool.and_eq_false_iff,YU,ZV];rcases h with h | ⟨rfl,h⟩
  ·have h':=UInt8.lt_iff_toNat_lt.1 h;refine⟨fun k=>by have:=UInt8.lt_iff_toNat_lt.1 k;omega,.inl fun e=>by subst e;omega⟩
  ·exact⟨fun k=>by have:=UInt8.lt_iff_toNat_lt.1 k;omega,.inr (jU_ h)⟩
theorem hl_:∀ {x y z:List UInt8},bl x y=true->bl y z=true->bl x z=true
 |[],[],_,h,_=>by simp[bl,Op.bytesLess] at h
 |[],b::y,[],_,h=>by simp[bl,Op.bytesLess] at h
 |[],b::y,c::z,_,_=>rfl
 |a::x,[],_,h,_=>by simp[bl,Op.bytesLess] at h
 |a::x,b::y,[],_,h=>by simp[bl,Op.bytesLess] at h
 |a::x,b::y,c::z,h1,h2=>by
  simp only[bl,Op.bytesLess,Bool.or_eq_true,Zf,ZU,beq_iff_eq,UInt8.lt_iff_toNat_lt] at *;rcases h1 with h1 | ⟨rfl,h1⟩
  ·rcases h2 with h2 | ⟨rfl,h2⟩
   ·left;omega
   ·left;exact h1
  ·rcases h2 with h2 | ⟨rfl,h2⟩
   ·left;exact h2
   ·right;exact⟨rfl,hl_ h1 h2⟩
theorem jV_ {x y:ByteArray}(h:x.toList=y.toList):x=y:=by
 rw[Zu,Zu] at h
 cases x;cases y
 congr 1;exact Array.toList_inj.1 h
def Bz (a b:Ow):Bool:=a.a==b.a&&a.v==b.v&&a.f.toList==b.f.toList
theorem aM_:Bz a b=true↔a=b:=by
 constructor
 ·intro h;simp[Bz] at h;obtain⟨⟨h1,h2⟩,h3⟩:=h
  cases a;cases b
  simp at *;exact⟨h1,h2,jV_ h3⟩
 ·rintro rfl;simp[Bz]
def Bc (a b:Ow):Bool:=if a.a≠b.a then decide (a.a<b.a) else if a.v≠b.v then decide (a.v<b.v) else bl a.f.toList b.f.toList
theorem gD_ (a:Ow):Bc a a=false:=by simp[Bc,cn_]
theorem ct_ (h:Bc a b=false)(hne:a≠b):Bc b a=true:=by
 by_cases h1:a.a=b.a
 ·by_cases h2:a.v=b.v
  ·have h3:a.f.toList≠b.f.toList:=fun e=>hne (aM_.1 (by simp[Bz,h1,h2,e]));simp only[Bc,h1,h2,ne_eq,not_true,if_false] at h ⊢;exact jT_ h h3
  ·simp only[Bc,h1,ne_eq,not_true,if_false,h2,not_false_eq_true,if_true,YU] at h;simp only[Bc,h1,ne_eq,not_true,if_false,if_pos (Ne.symm h2),ZU];omega
 ·simp only[Bc,ne_eq,h1,not_false_eq_true,if_true,YU] at h;simp only[Bc,ne_eq,if_pos (Ne.symm h1),ZU];omega
theorem ly_ (h:Bc a b=true):Bc b a=false:=by
 by_cases h1:a.a=b.a
 ·by_cases h2:a.v=b.v
  ·simp only[Bc,h1,h2,ne_eq,not_true,if_false] at h ⊢;exact jU_ h
  ·simp only[Bc,h1,ne_eq,not_true,if_false,h2,not_false_eq_true,if_true,ZU] at h;simp only[Bc,h1,ne_eq,not_true,if_false,if_pos (Ne.symm h2),YU];omega
 ·simp only[Bc,ne_eq,h1,not_false_eq_true,if_true,ZU] at h;simp only[Bc,ne_eq,if_pos (Ne.symm h1),YU];omega
theorem jW_:Bc a b=true↔a.a<b.a∨(a.a=b.a∧(a.v<b.v∨(a.v=b.v∧bl a.f.toList b.f.toList=true))):=by
 unfold Bc;split
 ·rename_i h;simp;omega
 ·rename_i h;split
  ·rename_i k;simp;omega
  ·rename_i k;simp at h k;constructor
   ·intro e;exact .inr ⟨h,.inr ⟨k,e⟩⟩
   ·rintro (e | ⟨_,e | ⟨_,e⟩⟩)
    ·omega
    ·omega
    ·exact e
theorem b7_ {c:Ow}(h:Bc a b=true)(k:Bc b c=true):Bc a c=true:=by
 rw[jW_] at *;rcases h with h | ⟨h1,h | ⟨h2,h⟩⟩<;>rcases k with k | ⟨k1,k | ⟨k2,k⟩⟩
 case inr.inr.inr.inr=>exact .inr ⟨by omega,.inr ⟨by omega,hl_ h k⟩⟩
 case inl.inl=>exact .inl (by omega)
 case inl.inr.inl=>exact .inl (by omega)
 case inl.inr.inr=>exact .inl (by omega)
 case inr.inl.inl=>exact .inl (by omega)
 case inr.inr.inl=>exact .inl (by omega)
 case inr.inl.inr.inl=>exact .inr ⟨by omega,.inl (by omega)⟩
 case inr.inl.inr.inr=>exact .inr ⟨by omega,.inl (by omega)⟩
 case inr.inr.inr.inl=>exact .inr ⟨by omega,.inl (by omega)⟩
def DB (x y:Int):Int:=if x<y then -1 else if y<x then 1 else 0
def Fc (x y:ByteArray):Int:=if bl x.toList y.toList=true then -1 else if x.toList=y.toList then 0 else 1
def or3 (x y z:Int):Int:=if x≠0 then x else if y≠0 then y else z
def CZ (a b:Ow):Int:=or3 (DB a.a b.a) (DB a.v b.v) (Fc a.f b.f)
theorem i6_ (a b:Ow):decide (CZ a b<0)=Bc a b:=by
 rw[YH,jW_,ZU];unfold CZ or3 DB Fc;rcases Int.lt_trichotomy a.a b.a with h | h | h
 ·rw[if_pos h,if_pos (by decide)];constructor
  ·intro _;exact .inl h
  ·intro _;decide
 ·rw[h,if_neg (Int.lt_irrefl _),if_neg (Int.lt_irrefl _),if_neg (by decide)];rcases Int.lt_trichotomy a.v b.v with k | k | k
  ·rw[if_pos k,if_pos (by decide)];constructor
   ·intro _;exact .inr ⟨rfl,.inl k⟩
   ·intro _;decide
  ·rw[k,if_neg (Int.lt_irrefl _),if_neg (Int.lt_irrefl _),if_neg (by decide)]
   cases h5:bl a.f.toList b.f.toList
   ·constructor
    ·intro e;rw[if_neg (by decide)] at e;split at e<;>omega
    ·rintro (e | ⟨_,e | ⟨_,e⟩⟩)
     ·omega
     ·omega
     ·cases e
   ·constructor
    ·intro _;exact .inr ⟨rfl,.inr ⟨rfl,rfl⟩⟩
    ·intro _;rw[if_pos rfl];decide
  ·rw[if_neg (show ¬ a.v<b.v by omega),if_pos k,if_pos (by decide)];constructor
   ·intro e;omega
   ·rintro (e | ⟨_,e | ⟨_,e⟩⟩)<;>omega
 ·rw[if_neg (show ¬ a.a<b.a by omega),if_pos h,if_pos (by decide)];constructor
  ·intro e;omega
  ·rintro (e | ⟨e,_⟩)<;>omega
end
section
open Go Go.RowKit
variable{c:Ct}{a b:Ow}
def Bm:List Ct->Ct->List Ct
 |[],c=>[c]
 |x::r,c=>if Bc x.o c.o=true then x::Bm r c else if Bz x.o c.o=true then (if x.n+c.n≠0 then ⟨c.o,x.n+c.n⟩::r else r) else c::x::r
def AR (l more:List Ct):List Ct:=more.foldl Bm l
def tot (o:Ow):List Ct->Int
 |[]=>0
 |c::r=>(if Bz c.o o=true then c.n else 0)+tot o r
def Bu (l:List Ct):Prop:=l.Pairwise (fun x y=>Bc x.o y.o=true)
def Bj (l:List Ct):Prop:=∀ c∈l,c.n≠0
theorem a3_ (o:Ow):Bz o o=true:=aM_.2 rfl
theorem dA_ (h:Bc a b=true):Bz a b=false:=by
 cases e:Bz a b
 ·rfl
 ·rw[aM_.1 e,gD_] at h;cases h
theorem ge_ (h:Bz a b=false):Bz b a=false:=by
 cases e:Bz b a
 ·rfl
 ·rw[aM_.1 e,a3_] at h;cases h
theorem cc_ {o:Ow}:∀ {l:List Ct},(∀ c∈l,Bc o c.o=true)->tot o l=0
 |[],_=>rfl
 |c::r,h=>by
  have h1:=ge_ (dA_ (h c (by simp)));simp only[tot,h1,Zj,if_false];rw[cc_ (fun x hx=>h x (by simp[hx]))];rfl
theorem bn_ (o:Ow):∀ (l m:List Ct),tot o (l++m)=tot o l+tot o m
 |[],m=>by simp[tot]
 |c::r,m=>by simp only[YF,tot,bn_ o r m];omega
theorem jX_ (o:Ow)(c:Ct):∀ l:List Ct,tot o (Bm l c)=tot o l+(if Bz c.o o=true then c.n else 0)
 |[]=>by simp[Bm,tot]
 |x::r=>by
  unfold Bm;split
  ·simp only[tot,jX_ o c r];omega
  ·split
   ·rename_i h1 h2;have e:=aM_.1 h2;split
    ·simp only[tot,e];split<;>omega
    ·simp only[tot,e];split<;>omega
   ·simp only[tot];omega
theorem jY_ {z:Ow}(hc:Bc z c.o=true):∀ {l:List Ct},(∀ x∈l,Bc z x.o=true)->∀ x∈Bm l c,Bc z x.o=true
 |[],_=>by intro x hx;simp[Bm] at hx;subst hx;exact hc
 |y::r,h=>by
  have hy:=h y (by simp);have hr:∀ x∈r,Bc z x.o=true:=fun x hx=>h x (by simp[hx]);unfold Bm;split
  ·intro x hx;rcases Zn.1 hx with rfl | hx
   ·exact hy
   ·exact jY_ hc hr x hx
  ·split
   ·split
    ·intro x hx;rcases Zn.1 hx with rfl | hx
     ·exact hc
     ·exact hr x hx
    ·exact hr
   ·intro x hx;rcases Zn.1 hx with rfl | hx
    ·exact hc
    ·exact h x hx
theorem gE_ (c:Ct):∀ {l:List Ct},Bu l->Bu (Bm l c)
 |[],_=>by simp[Bm,Bu]
 |y::r,h=>by
  obtain⟨h1,h2⟩:=Ye.1 h;unfold Bm;split
  ·rename_i k;exact Ye.2 ⟨jY_ k h1,gE_ c h2⟩
  ·rename_i k;split
   ·rename_i e;have e:=aM_.1 e;split
    ·exact Ye.2 ⟨fun x hx=>by simp only[<-e];exact h1 x hx,h2⟩
    ·exact h2
   ·rename_i e;have ha:Bc c.o y.o=true:=ct_ (by simpa using k) (fun e'=>e (aM_.2 e'));refine Ye.2 ⟨fun x hx=>?_,h⟩;rcases Zn.1 hx with rfl | hx
    ·exact ha
    ·exact b7_ ha (h1 x hx)
theorem gF_ (hc:c.n≠0):∀ {l:List Ct},Bj l->Bj (Bm l c)
 |[],_=>by intro x hx;simp[Bm] at hx;subst hx;exact hc
 |y::r,h=>by
  have hy:=h y (by simp);have hr:Bj r:=fun x hx=>h x (by simp[hx]);unfold Bm;split
  ·intro x hx;rcases Zn.1 hx with rfl | hx
   ·exact hy
   ·exact gF_ hc hr x hx
  ·split
   ·split
    ·rename_i k;intro x hx;rcases Zn.1 hx with rfl | hx
     ·exact k
     ·exact hr x hx
    ·exact hr
   ·intro x hx;rcases Zn.1 hx with rfl | hx
    ·exact hc
    ·exact h x hx
theorem cS_:∀ {l m:List Ct},Bu l->Bu m->Bj l->Bj m->(∀ o,tot o l=tot o m)->l=m
 |[],[],_,_,_,_,_=>rfl
 |[],y::s,_,hm,_,zm,h=>by
  have:=h y.o
  have hs:=cc_ (Ye.1 hm).1;simp only[tot,a3_,if_true,hs] at this
  exact absurd (by omega) (zm y (by simp))
 |x::r,[],hl,_,zl,_,h=>by
  have:=h x.o
  have hr:=cc_ (Ye.1 hl).1;simp only[tot,a3_,if_true,hr] at this
  exact absurd (by omega) (zl x (by simp))
 |x::r,y::s,hl,hm,zl,zm,h=>by
  obtain⟨hf,hh⟩:=Ye.1 hl;obtain⟨hg,hj⟩:=Ye.1 hm;have hr:=cc_ hf;have hs:=cc_ hg
  cases hb:Bc x.o y.o
  ·cases he:Bc y.o x.o
   ·have e:x.o=y.o:=by
     cases e:Bz x.o y.o
     ·have:=ct_ hb (fun e'=>by rw[aM_.2 e'] at e;cases e)
      rw[he] at this;cases this
     ·exact aM_.1 e
    have h1:=h x.o;rw[<-e] at hs;simp only[tot,<-e,a3_,if_true,hr,hs] at h1;have exy:x=y:=by cases x;cases y;simp at e h1 ⊢;exact⟨e,h1⟩
    subst exy
    have:r=s:=cS_ hh hj (fun c hc=>zl c (by simp[hc])) (fun c hc=>zm c (by simp[hc])) (fun o=>by have:=h o;simp only[tot] at this;omega)
    rw[this]
   ·have h1:=h y.o;have hz:tot y.o r=0:=cc_ (fun c hc=>b7_ he (hf c hc));have ha:=ge_ (dA_ he);simp only[tot,a3_,if_true,hs,ha,Zj,if_false,hz] at h1
    exact absurd (by omega) (zm y (by simp))
  ·have h1:=h x.o;have hz:tot x.o s=0:=cc_ (fun c hc=>b7_ hb (hg c hc));have ha:=ge_ (dA_ hb);simp only[tot,a3_,if_true,hr,ha,Zj,if_false,hz] at h1
   exact absurd (by omega) (zl x (by simp))
theorem eL_:∀ {more l:List Ct},Bu l->Bj l->Bj more->Bu (AR l more)∧Bj (AR l more)∧∀ o,tot o (AR l more)=tot o l+tot o more
 |[],l,hl,zl,_=>⟨hl,zl,fun o=>by simp[AR,tot]⟩
 |c::r,l,hl,zl,zm=>by
  obtain⟨h1,h2,h3⟩:=eL_ (more:=r) (gE_ c hl) (gF_ (zm c (by simp)) zl) (fun x hx=>zm x (by simp[hx]));refine⟨h1,h2,fun o=>?_⟩
  have:=h3 o
  rw[jX_] at this;simp only[AR,YE,tot] at this ⊢;omega
def AQ (c:Ct)(s:List Ct×Bool)(x:Ct):List Ct×Bool:=
 if s.2=true then (s.1++[x],true) else if Bc x.o c.o=true then (s.1++[x],false) else
 if Bz x.o c.o=true then (if x.n+c.n≠0 then (s.1++[⟨c.o,x.n+c.n⟩],true) else (s.1,true)) else (s.1++[c]++[x],true)
def Cd (c:Ct)(s:List Ct×Bool):List Ct:=if s.2=true then s.1 else s.1++[c]
theorem fI_ (c:Ct):∀ (l out:List Ct),l.foldl (AQ c) (out,true)=(out++l,true)
 |[],out=>by simp
 |x::r,out=>by
  rw[YE,show AQ c (out,true) x=(out++[x],true) by simp[AQ],fI_ c r];simp
theorem jZ_ (c:Ct):∀ (l out:List Ct),Cd c (l.foldl (AQ c) (out,false))=out++Bm l c
 |[],out=>by simp[Cd,Bm]
 |x::r,out=>by
  rw[YE];unfold Bm;by_cases h1:Bc x.o c.o=true
  ·rw[show AQ c (out,false) x=(out++[x],false) by simp[AQ,h1],jZ_ c r,if_pos h1];simp
  ·by_cases h2:Bz x.o c.o=true
   ·by_cases h3:x.n+c.n≠0
    ·rw[show AQ c (out,false) x=(out++[⟨c.o,x.n+c.n⟩],true) by simp[AQ,h1,h2,h3],fI_,if_neg h1,if_pos h2,if_pos h3];simp[Cd]
    ·rw[show AQ c (out,false) x=(out,true) by simp[AQ,h1,h2,h3],fI_,if_neg h1,if_pos h2,if_neg h3];simp[Cd]
   ·rw[show AQ c (out,false) x=(out++[c]++[x],true) by simp[AQ,h1,h2],fI_,if_neg h1,if_neg h2];simp[Cd]
theorem aS_ (p:Ct):p.cs.length=4:=rfl
theorem a9_ (l:List Ct):∀ u∈l.flatMap Ct.cs,u.oneCell'=true:=by
 intro u hu;obtain⟨p,_,hp⟩:=ZL.1 hu;simp[Ct.cs] at hp;rcases hp with rfl | rfl | rfl | rfl<;>rfl
theorem eM_ {w:World}{b:Nat}{p:Ct}(h0:w.cell? ⟨b,0,none⟩=some (.int .i64 p.o.a))(h1:w.cell? ⟨b,1,none⟩=some (.int .i64 p.o.v))(h2:w.cell? ⟨b,2,none⟩=some (.string p.o.f))(h3:w.cell? ⟨b,3,none⟩=some (.int .i64 p.n)):A5 w (some ⟨b,0,none⟩) 1 [p]:=by
 refine⟨rfl,fun i x hx=>⟨b,0,rfl,fun j v hv=>?_⟩⟩;have hi:i=0:=by have:=(Zb.1 hx).1;simp at this;exact this
 subst hi;simp at hx;subst hx
 match j,hv with
 |0,hv=>obtain rfl:=Zi hv;exact h0
 |1,hv=>obtain rfl:=Zi hv;exact h1
 |2,hv=>obtain rfl:=Zi hv;exact h2
 |3,hv=>obtain rfl:=Zi hv;exact h3
 |j+4,hv=>simp[Ct.cs] at hv
theorem cl_ (w:World)(p:Ct)(t:TypeId)(b:Nat)(hb:b=w.heap.size):A5 (w.alloc (.cells #[.int .i64 p.o.a,.int .i64 p.o.v,.string p.o.f,.int .i64 p.n] t)) (some ⟨b,0,none⟩) 1 [p]:=by
 subst hb;exact eM_ (by simp) (by simp) (by simp) (by simp)
theorem Dr:(Tryz.prog.info? 80).map (fun i=>(i.zero,i.size,i.bytes))=some (some (.agg #[.int .i64 0,.int .i64 0,.string .empty,.int .i64 0]),4,40):=by kernel_rfl
end
section
open Go Go.RowKit Go.BigFrame Tryz
theorem fc_ (x:Int)(w:World):
  Calls prog 242 #[.int .i64 x] w fun e w'=>e=.returned (.bool false)∧w'=w:=by
 have hx:(x != x)=false:=by simp
 go_enter func242,ntmps242;go_wp2;go_returns;go_light;exact⟨by simp,rfl⟩
theorem fd_ (x:ByteArray)(w:World):
  Calls prog 243 #[.string x] w fun e w'=>e=.returned (.bool false)∧w'=w:=by
 go_enter func243,ntmps243;go_wp2;go_returns;go_light;exact⟨by simp,rfl⟩
theorem dZ_ (x y:Int)(w:World):
  Calls prog 222 #[.int .i64 x,.int .i64 y] w fun e w'=>e=.returned (.int .i64 (DB x y))∧w'=w:=by
 go_enter func222,ntmps222
 go_wp2_with fail
 refine (fc_ _ _).mono ?_;rintro e w1 ⟨rfl,rfl⟩
 go_wp2_with fail
 refine (fc_ _ _).mono ?_;rintro e w1 ⟨rfl,rfl⟩;go_wp2
 all_goals go_returns
 all_goals go_light
 all_goals refine⟨a4_ ?_,rfl⟩
 all_goals simp[DB]
 all_goals omega
theorem d0_ (x y:ByteArray)(w:World):
  Calls prog 223 #[.string x,.string y] w fun e w'=>e=.returned (.int .i64 (Fc x y))∧w'=w:=by
 go_enter func223,ntmps223
 go_wp2_with fail
 refine (fd_ _ _).mono ?_;rintro e w1 ⟨rfl,rfl⟩
 go_wp2_with fail
 refine (fd_ _ _).mono ?_;rintro e w1 ⟨rfl,rfl⟩;go_wp2
 all_goals go_returns
 all_goals go_light
 all_goals refine⟨a4_ ?_,rfl⟩
 all_goals simp_all [Fc,bl]
theorem mx_ (x y z:Int)(b:Nat)(cap:Nat)(w:World)(h0:w.cell? ⟨b,0,none⟩=some (.int .i64 x))(h1:w.cell? ⟨b,1,none⟩=some (.int .i64 y))(h2:w.cell? ⟨b,2,none⟩=some (.int .i64 z)):
  Calls prog 221 #[.slice (some ⟨b,0,none⟩) 3 cap] w fun e w'=>e=.returned (.int .i64 (or3 x y z))∧w'=w:=by
 by_cases hx:x=0
 ·have ha:(x != 0)=false:=by simp[hx]
  by_cases hy:y=0
  ·have hb:(y != 0)=false:=by simp[hy]
   by_cases hz:z=0
   ·have hc:(z != 0)=false:=by simp[hz]
    have hf:Hid (or3 x y z=0):=by show _=_;simp[or3,hx,hy,hz]
    clear hx hy hz;go_enter func221,ntmps221
    go_wp2_with fail
    go_rounds 4
    go_returns;go_light;exact⟨a4_ hf.out.symm,rfl⟩
   ·have hc:(z != 0)=true:=by simp[hz]
    have hf:Hid (or3 x y z=z):=by show _=_;simp[or3,hx,hy]
    clear hx hy hz;go_enter func221,ntmps221
    go_wp2_with fail
    go_rounds 3
    go_returns;go_light;exact⟨a4_ hf.out.symm,rfl⟩
  ·have hb:(y != 0)=true:=by simp[hy]
   have hf:Hid (or3 x y z=y):=by show _=_;simp[or3,hx,hy]
   clear hx hy;go_enter func221,ntmps221
   go_wp2_with fail
   go_rounds 2
   go_returns;go_light;exact⟨a4_ hf.out.symm,rfl⟩
 ·have ha:(x != 0)=true:=by simp[hx]
  have hf:Hid (or3 x y z=x):=by show _=_;simp[or3,hx]
  clear hx;go_enter func221,ntmps221
  go_wp2_with fail
  go_rounds 1
  go_returns;go_light;exact⟨a4_ hf.out.symm,rfl⟩
theorem Gv (w:World)(x y z:Value)(t:TypeId):(w.alloc (.cells #[x,y,z] t)).drew.cell? ⟨w.heap.size,0,none⟩=some x∧(w.alloc (.cells #[x,y,z] t)).drew.cell? ⟨w.heap.size,1,none⟩=some y∧(w.alloc (.cells #[x,y,z] t)).drew.cell? ⟨w.heap.size,2,none⟩=some z:=
 ⟨Yv _ _ _ 0,Yv _ _ _ 1,Yv _ _ _ 2⟩
theorem gT_ (p q:Ow)(w:World):
  Calls prog 184 #[.agg #[.int .i64 p.a,.int .i64 p.v,.string p.f],.agg #[.int .i64 q.a,.int .i64 q.v,.string q.f]] w fun e w'=>e=.returned (.int .i64 (CZ p q))∧Below w.heap.size w w':=by
 have ha:Hid (CZ p q=or3 (DB p.a q.a) (DB p.v q.v) (Fc p.f q.f)):=rfl;generalize CZ p q=R at *;obtain⟨a,v,f⟩:=p;obtain⟨b,u,g⟩:=q;simp only at ha;go_enter func184,ntmps184
 go_wp2_with fail
 have x0:((w.alloc (.cells #[.int .i64 a,.int .i64 v,.string f] 78)).alloc (.cells #[.int .i64 b,.int .i64 u,.string g] 78)).cell? ⟨w.heap.size,0,none⟩=some (.int .i64 a):=Ah _ (by simp);have x1:((w.alloc (.cells #[.int .i64 a,.int .i64 v,.string f] 78)).alloc (.cells #[.int .i64 b,.int .i64 u,.string g] 78)).cell? ⟨w.heap.size,1,none⟩=some (.int .i64 v):=Ah _ (by simp);have x2:((w.alloc (.cells #[.int .i64 a,.int .i64 v,.string f] 78)).alloc (.cells #[.int .i64 b,.int .i64 u,.string g] 78)).cell? ⟨w.heap.size,2,none⟩=some (.string f):=Ah _ (by simp);have y0:((w.alloc (.cells #[.int .i64 a,.int .i64 v,.string f] 78)).alloc (.cells #[.int .i64 b,.int .i64 u,.string g] 78)).cell? ⟨w.heap.size+1,0,none⟩=some (.int .i64 b):=by simp
 have y1:((w.alloc (.cells #[.int .i64 a,.int .i64 v,.string f] 78)).alloc (.cells #[.int .i64 b,.int .i64 u,.string g] 78)).cell? ⟨w.heap.size+1,1,none⟩=some (.int .i64 u):=by simp
 have y2:((w.alloc (.cells #[.int .i64 a,.int .i64 v,.string f] 78)).alloc (.cells #[.int .i64 b,.int .i64 u,.string g] 78)).cell? ⟨w.heap.size+1,2,none⟩=some (.string g):=by simp
 have hb:Below w.heap.size w ((w.alloc (.cells #[.int .i64 a,.int .i64 v,.string f] 78)).alloc (.cells #[.int .i64 b,.int .i64 u,.string g] 78)):=by go_grown
 generalize (w.alloc (.cells #[.int .i64 a,.int .i64 v,.string f] 78)).alloc (.cells #[.int .i64 b,.int .i64 u,.string g] 78)=W0 at *
 go_region_held3 (fun u'=>u'.cell? ⟨w.heap.size,0,none⟩=some (.int .i64 a)∧u'.cell? ⟨w.heap.size,1,none⟩=some (.int .i64 v)∧u'.cell? ⟨w.heap.size,2,none⟩=some (.string f)∧u'.cell? ⟨w.heap.size+1,0,none⟩=some (.int .i64 b)∧u'.cell? ⟨w.heap.size+1,1,none⟩=some (.int .i64 u)∧u'.cell? ⟨w.heap.size+1,2,none⟩=some (.string g)) (go_keep)
  (first | (go_at_call 222;refine (dZ_ _ _ _).mono ?_;rintro e w2 ⟨rfl,rfl⟩) | (go_at_call 223;refine (d0_ _ _ _).mono ?_;rintro e w2 ⟨rfl,rfl⟩) | (go_at_call 221;refine (mx_ (DB a b) (DB v u) (Fc f g) W0.heap.size 3 _ (Gv W0 _ _ _ _).1 (Gv W0 _ _ _ _).2.1 (Gv W0 _ _ _ _).2.2).mono ?_;rintro e w2 ⟨rfl,rfl⟩))
 go_wp2;go_returns;go_light;exact⟨a4_ ha.out.symm,(hb.alloc hb.size _).drew⟩
theorem gU_ (p q:Ow)(w:World):
  Calls prog 202 #[.agg #[.int .i64 p.a,.int .i64 p.v,.string p.f],.agg #[.int .i64 q.a,.int .i64 q.v,.string q.f]] w fun e w'=>e=.returned (.bool (Bc p q))∧Below w.heap.size w w':=by
 have ha:Hid (Bc p q=decide (CZ p q<0)):=(i6_ p q).symm;obtain⟨a,v,f⟩:=p;obtain⟨b,u,g⟩:=q;go_enter func202,ntmps202
 go_wp2_with fail
 refine (gT_ ⟨a,v,f⟩ ⟨b,u,g⟩ _).mono ?_;rintro e w1 ⟨rfl,hb⟩;have hc:Below w.heap.size w w1:=Aa (by go_grown) hb;go_wp2;go_returns;go_light;exact⟨ac_ ha.out.symm,hc⟩
theorem aF_ (p q:Ow)(w:World):
  Calls prog 206 #[.agg #[.int .i64 p.a,.int .i64 p.v,.string p.f],.agg #[.int .i64 q.a,.int .i64 q.v,.string q.f]] w fun e w'=>e=.returned (.bool (Bc p q))∧Below w.heap.size w w':=by
 obtain⟨a,v,f⟩:=p;obtain⟨b,u,g⟩:=q;go_enter func206,ntmps206;go_wp2
 all_goals go_returns
 all_goals go_light
 all_goals refine⟨?_,by go_grown⟩
 all_goals simp_all [Bc]
end
section
open Go.RowKit Go.Shelf Tryz
variable{l:List Ex}{Bs n₀:Nat}{w:World}
attribute [local go_sem] YJ
def ggo (size:Int):Int->List Ex->List (Int×Int)
 |next,[]=>if next<=size then [(next,size+1-next)] else []
 |next,e::r=>(if next<e.a then [(next,e.a-next)] else [])++ggo size (e.a+e.d.size) r
def KpG (n₀ Bs:Nat)(t:TypeId)(A B:World):Prop:=Below n₀ A B∧(∀ b c,Blk A b c t->Blk B b c t)∧(∀ v,A.cell? ⟨Bs,0,none⟩=some v->B.cell? ⟨Bs,0,none⟩=some v)
theorem KpG.t {t:TypeId}{A B C:World}(h:KpG n₀ Bs t A B)(k:KpG n₀ Bs t B C):KpG n₀ Bs t A C:=
 ⟨h.1.trans k.1,fun b c hb=>k.2.1 b c (h.2.1 b c hb),fun v hv=>k.2.2 v (h.2.2 v hv)⟩
theorem KpG.b {t:TypeId}(hn:n₀<=w.heap.size)(hs:Bs<w.heap.size)(W:World)(l:Nat)(o o':Obj)(hl:w.heap.size<=l)(h:W.heap[l]?=some o)(hc:o.isCells=false)(hw:o.isWalk=false):KpG n₀ Bs t W (W.putObj l o'):=by
 refine⟨belowK_b hn W l o o' hl h hc hw,fun b c hb=>?_,fun v hv=>?_⟩
 ·have ha:b≠l:=fun e=>by subst e;unfold Blk at hb;rw[h] at hb;cases hb;cases hc
  exact Blk.grown hb (grownBy_putObj' W l o') ha
 ·exact (grownBy_putObj' W l o').cell hv (by simp;omega)
def Hb (n₀:Nat)(w:World)(a:Option Addr)(n:Nat)(l:List Ex):Prop:=Bf w a n l∧∀ ad,0<n->a=some ad->ad.block<n₀
theorem pf_ {w':World}{a:Option Addr}{n:Nat}(h:Hb n₀ w a n l)(hb:Below n₀ w w'){k:Nat}(hk:k<n):
  ∃ b o p,a=some ⟨b,o,none⟩∧l[k]?=some p∧w'.cell? ⟨b,o+k*2,none⟩=some (.int .i64 p.a)∧w'.cell? ⟨b,o+k*2+1,none⟩=some (.string p.d):=by
 obtain⟨b,o,p,ha,hp,c0,c1⟩:=be_ h.1 hk;have hc:b<n₀:=h.2 _ (by omega) ha;exact⟨b,o,p,ha,hp,(hb.cell (p:=⟨b,o+k*2,none⟩) hc).trans c0,(hb.cell (p:=⟨b,o+k*2+1,none⟩) hc).trans c1⟩
theorem nZ_ (n:Nat)(hn:1<=n)(l Bl Bs n₀ N:Nat)(size:Int)(a:Option Addr)(nn cap:Nat)(L:List Ex)(J Jx:List (Int×Int)->World->Prop)(W:World)(hJ:AbidesFrom W.heap.size J)
  (hY:∀ pre x W1,J pre W1->pre.length<N->YieldAt Fence.wide (n-1) prog l #[.int .i64 x.1,.int .i64 x.2] W1 fun e W'=>
   (e=.returned (.bool true)∧J (pre++[x]) W'∧KpG n₀ Bs 76 W1 W')∨(e=.returned (.bool false)∧Jx (pre++[x]) W'))
  (hBl:W.cell? ⟨Bl,0,none⟩=some (.slice a nn cap))(hBs:W.cell? ⟨Bs,0,none⟩=some (.int .i64 size))(hL:Hb n₀ W a nn L)(hx:xgo size 1 L=true)(hs1:1<=size)(hs2:size<=400)(hnn:nn<=60)(hN:61<=N)(hn0:n₀<=W.heap.size)(h0:J [] W):
  CallsIn Fence.wide n prog 145 #[.func (.yield l) #[] #[],.pointer (some ⟨Bl,0,none⟩),.pointer (some ⟨Bs,0,none⟩)] W fun e W'=>(∃ v,e=.returned v)∧
   ((∃ ys,ys=ggo size 1 L∧J ys W')∨(∃ pre,pre <+: ggo size 1 L∧Jx pre W')):=by
 have hm:Hid (L.length=nn):=hL.1.len;refine callsIn_of_wp func145 rfl trivial ?_ rfl;simp only[ntmps145,YI,Zw,YK,Nat.reduceAdd,Nat.reduceSub,Array.replicate_succ,Array.replicate_zero,List.push_toArray,List.append_toArray,ZM,YF]
 gi_wp2
 gi_loopw [4,9] (fun nx ix wr=>∃ (k:Nat) (next:Int) (pre:List (Int×Int)),k<=nn∧ix=.int .i64 k∧nx=.int .i64 next∧1<=next∧next<=421∧pre.length<=k∧Hid (ggo size 1 L=pre++ggo size next (L.drop k))∧Hid (xgo size next (L.drop k)=true)∧J pre wr∧Below n₀ W wr∧wr.cell? ⟨Bs,0,none⟩=some (.int .i64 size))
  (fun _ ix _=>nn-(intOf ix).toNat)
 case atStart=>exact⟨0,1,[],Zg _,rfl,rfl,by omega,by omega,Zd _,by show _=_;simp,hx,h0,Yg _ _,hBs⟩
 case round=>
  obtain⟨k,next,pre,hk,rfl,rfl,hA,hC,hz,hI,hX,hf,hB,hc⟩:=hrel;by_cases hlt:k<nn
  ·obtain⟨b,o,p,rfl,hp,c0,c1⟩:=pf_ hL hB hlt;have hd:Hid (L.drop k=p::L.drop (k+1)):=al_ hp;clear hp;have hg:=hX.out;rw[hd.out] at hg;simp only[xgo,Zf,ZU] at hg;obtain⟨⟨⟨hl,ht⟩,hu⟩,hr⟩:=hg;have hj:1<=p.d.size∧p.d.size<=20:=by simp[As] at hl;exact hl.1
   obtain⟨hv,hw⟩:=hj;have hs:Hid (xgo size (p.a+p.d.size) (L.drop (k+1))=true):=hr;clear hr hX hl;have hq:J pre (wr.alloc (.cells #[.int .i64 p.a,.string p.d] 76)):=hJ pre wr _ none hf (Yl wr _ none) (fun r e=>by cases e);by_cases hgt:next<p.a
   ·obtain⟨fn,tmps,assign,body,hy,hR⟩:=hY pre (next,p.a-next) _ hq (by omega);have ha:Hid (ggo size 1 L=(pre++[(next,p.a-next)])++ggo size (p.a+p.d.size) (L.drop (k+1))):=by show _=_;rw[hI.out,hd.out,ggo,if_pos hgt];simp
    dsimp only at hy
    gi_wp2
    refine hR.mono ?_;rintro e W3 (⟨rfl,hJ3,hK3⟩ | ⟨rfl,hJx3⟩)
    ·have hh:=hK3.2.1 _ _ (Blk.new wr #[.int .i64 p.a,.string p.d] 76);have e0:W3.cell? ⟨wr.heap.size,0,none⟩=some (.int .i64 p.a):=hh.cell 0;have e1:W3.cell? ⟨wr.heap.size,1,none⟩=some (.string p.d):=hh.cell 1;have he:Below n₀ W W3:=(hB.alloc (Zl hn0 hB.size) _).trans hK3.1;have ho:=hK3.2.2 _ (Ah _ hc);clear hK3 hh hy hR
     gi_wp2
     go_roundw
     case rel=>exact⟨k+1,p.a+p.d.size,pre++[(next,p.a-next)],by omega,by go_num,by go_num,by omega,by omega,by simp;omega,ha,hs,hJ3,he,ho⟩
     case measure=>simp[intOf];omega
    ·clear hy hR
     gi_wp2
     refine YW (results_none rfl _ _ _) rfl ?_;exact⟨⟨_,rfl⟩,.inr ⟨_,⟨_,ha.out.symm⟩,hJx3⟩⟩
   ·have ha:Hid (ggo size 1 L=pre++ggo size (p.a+p.d.size) (L.drop (k+1))):=by show _=_;rw[hI.out,hd.out,ggo,if_neg hgt];simp
    have he:Below n₀ W (wr.alloc (.cells #[.int .i64 p.a,.string p.d] 76)):=hB.alloc (Zl hn0 hB.size) _;have ho:(wr.alloc (.cells #[.int .i64 p.a,.string p.d] 76)).cell? ⟨Bs,0,none⟩=some (.int .i64 size):=Ah _ hc
    gi_wp2
    refine⟨fun _ h=>(by cases h),?_⟩
    gi_wp2
    go_roundw
    case rel=>exact⟨k+1,p.a+p.d.size,pre,by omega,by go_num,by go_num,by omega,by omega,by omega,ha,hs,hq,he,ho⟩
    case measure=>simp[intOf];omega
  ·obtain rfl:k=nn:=by omega
   have ha:=hI.out;rw[Ze (Zm hm.out)] at ha;by_cases hle:next<=size
   ·have hb:Hid (ggo size 1 L=pre++[(next,size+1-next)]):=by show _=_;rw[ha,ggo,if_pos hle]
    obtain⟨fn,tmps,assign,body,hy,hR⟩:=hY pre (next,size+1-next) wr hf (by omega);clear ha hI hX;dsimp only at hy
    gi_wp2
    refine hR.mono ?_;rintro e W3 (⟨rfl,hJ3,hK3⟩ | ⟨rfl,hJx3⟩)
    ·gi_wp2
     go_end0;exact⟨⟨_,rfl⟩,.inl ⟨_,hb.out.symm,hJ3⟩⟩
    ·gi_wp2
     go_end0;exact⟨⟨_,rfl⟩,.inr ⟨_,⟨[],by rw[hb.out];simp⟩,hJx3⟩⟩
   ·have hb:Hid (ggo size 1 L=pre):=by show _=_;rw[ha,ggo,if_neg hle];simp
    clear ha hI hX
    gi_wp2
    go_end0;exact⟨⟨_,rfl⟩,.inl (by rw[hb.out];exact hf)⟩
theorem pg_ (n:Nat)(size:Int)(a:Option Addr)(nn cap:Nat)(w:World):
  CallsIn Fence.wide n prog 84 #[.int .i64 size,.slice a nn cap] w fun e w'=>e=.returned (.func (.func 145) #[] #[.pointer (some ⟨w.heap.size+1,0,none⟩),.pointer (some ⟨w.heap.size,0,none⟩)])∧w'=(w.alloc (.cells #[.int .i64 size] 2)).alloc (.cells #[.slice a nn cap] 31):=by
 refine callsIn_of_wp func84 rfl trivial ?_ rfl;simp only[ntmps84,YI,Zw,YK,Nat.reduceAdd,Nat.reduceSub,Array.replicate_succ,Array.replicate_zero,List.push_toArray,List.append_toArray,ZM,YF]
 gi_wp2
 go_ret;exact⟨rfl,rfl⟩
theorem lz_ (n:Nat)(hn:1<=n)(Bl Bs n₀:Nat)(size:Int)(a:Option Addr)(nn cap:Nat)(L:List Ex)(w:World)(hn₀:n₀<=w.heap.size)
  (cl:w.cell? ⟨Bl,0,none⟩=some (.slice a nn cap))(cs:w.cell? ⟨Bs,0,none⟩=some (.int .i64 size))(hL:Hb n₀ w a nn L)(hx:xgo size 1 L=true)(hs1:1<=size)(hs2:size<=400)(hnn:nn<=60):
  SeqStopsK Fence.wide n prog 145 #[.pointer (some ⟨Bl,0,none⟩),.pointer (some ⟨Bs,0,none⟩)] (fun x:Int×Int=>#[Value.int .i64 x.1,Value.int .i64 x.2]) (KpG n₀ Bs 76) (fun ys=>ys=ggo size 1 L) (fun pre=>pre <+: ggo size 1 L) 61 w:=fun l J Jx W hW hJ _ hY h0=>by
 have hb:Hb n₀ W a nn L:=⟨⟨hL.1.len,fun i x hx=>by
  obtain⟨b,o,ha,hc⟩:=hL.1.cell i x hx;exact⟨b,o,ha,fun j v hv=>Ab hW (hc j v hv)⟩⟩,hL.2⟩
 exact nZ_ n hn l Bl Bs n₀ 61 size a nn cap L J Jx W hJ hY (Ab hW cl) (Ab hW cs) hb hx hs1 hs2 hnn (Zd _) (Zl hn₀ hW.size) h0
end
section
open Go.RowKit Go.Shelf Tryz
variable{l:List Ex}
attribute [local go_sem] YJ
attribute [local go_sem] YJ
def EW:List Ex->Int
 |[]=>0
 |e::r=>e.d.size+EW r
theorem cu_ {size:Int}(h:Ao size l=true):1<=size∧size<=400∧l.length<=60∧xgo size 1 l=true:=by
 simp only[Ao,Zf,ZU] at h;exact⟨h.1.1.1,h.1.1.2,h.1.2,h.2⟩
end
section
open Go.RowKit Go.Shelf Tryz
attribute [local go_sem] YJ
attribute [local go_sem] YJ
attribute [local go_sem] YJ
abbrev ics:Int->List Value:=fun x=>[Value.int .i64 x]
theorem Ia:(prog.info? 2).map (fun i=>(i.zero,i.size,i.bytes))=some (some (.int .i64 0),1,8):=by kernel_rfl
end
section
open Go Go.RowKit
variable{P:Program}{w:World}
theorem iD_ {w':World}{v v':Value}(base:Nat)(t ty e:TypeId)(i:TypeInfo)(z:Value)(size bytes:Nat)(ht:P.underlying t=some (.slice e))(hi:P.info? e=some i)(hz:i.zero=some z)
  (hsize:i.size=size)(hby:i.bytes=bytes)(n:Nat)(xs:List Value)(hc:w.ownsRow base e size v n xs)
  (a:Addr)(m c:Nat)(news:List Value)(hm:0<m)(hl:news.length=m*size)(hnews:∀ j u,news[j]?=some u->w.cell? (a.add j)=some u)(h1:∀ u∈news,u.oneCell'=true)
  (h63:n+m<=maxLen)(hbytes:(n+m)*bytes<=140737488355328)(hr:(Builtin.append_ #[t,t] ty #[v,.slice (some a) m c]).run P w=.ok v' w'):
  ∀ g,v'.ownBlock=some g->v.ownBlock=some g∨w.heap.size<=g:=by
 subst hsize;subst hby;have hj:n+m<=9223372036854775807:=by simp only[maxLen] at h63;omega
 intro g' hh;rcases hc.2 with⟨rfl,rfl⟩ | ⟨g,cap,cur,rfl,ho,hg,hq,hp,hn,hk⟩
 ·have ha:=run_append_nil (P:=P) w t ty e i z ht hi hz a m c news hl hnews (by omega) (by omega) (by have hb:=hbytes;simp only[Zq] at hb;omega);rw[hr] at ha
  cases ha
  right;simp[Value.ownBlock] at hh;omega
 ·by_cases hroom:n+m<=cap
  ·have hf:n*i.size+news.length<=cur.size:=by rw[hl,hn,<-Yd];exact ZS _ hroom
   have ha:=run_append_room (P:=P) w t ty e i ht hi g n cap cur hg a m c news hl hnews h1 hroom hf;rw[hr] at ha
   cases ha
   left;simpa[Value.ownBlock] using hh
  ·have he:∀ j u,xs[j]?=some u->w.cell? ((⟨g,0,none⟩:Addr).add j)=some u:=hc.cells (g:=g) rfl;have ha:=run_append_grow (P:=P) w t ty e i z ht hi hz ⟨g,0,none⟩ n cap xs hc.1 he a m c news hl hnews (by omega) (by omega) (growslice_fits (by omega) hbytes);rw[hr] at ha
   cases ha
   right;simp[Value.ownBlock] at hh;omega
end
end Go.Proofs.YtahenegmbmnmjaaGreatDoor
