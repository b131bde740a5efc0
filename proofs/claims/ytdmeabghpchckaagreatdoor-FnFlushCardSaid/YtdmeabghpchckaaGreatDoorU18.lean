/- Plain facts for PoolOk of the program: sets of addresses; volumes by their names. -/
import Derived.Shelf.SlSortCmp.NoneTotal
import Derived.Maps.RangeWalk
import Derived.WideKeyEntry
import Derived.Test.YtdmeabghpchckaaGreatDoorU16
set_option maxHeartbeats 20000000
set_option maxRecDepth 100000
namespace Go.Proofs.YtdmeabghpchckaaGreatDoor
section
open Go Go.RowKit Go.BigFrame
open Go.Maps (Keyed)
def Ck (x:Int)(L:List Ct):Int:=((L.countP (fun c=>c.o.a==x):Nat):Int)
end
section
open Go Go.RowKit Go.BigFrame Tryz
open Go.ChangeMaps Go.MapKept Go.WideElems
open Go.Maps (Keyed)
variable{x:Int}{L:List Ct}{b n:Nat}{w:World}
def BE (w:World)(b n:Nat)(L:List Ct):Prop:=
 ∃ D:DataW Unit,w.ownsMap prog 2 (plainElem prog 2) b n D∧(∀ x,(Lit.int .i64 x).wf=true->D.atKey (.int .i64 x) (.lit (.int .i64 0))=.lit (.int .i64 (Ck x L)))∧∀ x:Int,Maps.has D (.int .i64 x)=L.any (fun c=>c.o.a==x)
end
section
open Go Go.RowKit Go.BigFrame Tryz
open Go.Maps (Keyed)
variable{b n:Nat}{o:Ow}{w:World}
structure WfO (o:Ow):Prop where
 a:(Lit.int .i64 o.a).wf=true
 v:(Lit.int .i64 o.v).wf=true
 f:o.f.size<=maxLen
def klO (o:Ow):Lit:=.string (keyBytes [.int .i64 o.a,.int .i64 o.v,.string o.f.data.toList])
def AZ (w:World)(b n:Nat)(f:Ow->Int):Prop:=
 ∃ D:DataW Unit,w.ownsMap prog 44 (plainElem prog 2) b n D∧∀ o,WfO o->D.atKey (klO o) (.lit (.int .i64 0))=.lit (.int .i64 (f o))
theorem AZ.lt {f:Ow->Int}(h:AZ w b n f):b<w.heap.size:=by
 obtain⟨D,h,_⟩:=h;exact h.lt
end
section
open Go Go.RowKit Go.BigFrame Tryz
open Go.ChangeMaps Go.MapKept Go.WideElems
open Go.Maps (Keyed)
variable{x:Int}{L:List Ct}{b n:Nat}{v:Value}{w:World}
theorem BE.lt (h:BE w b n L):b<w.heap.size:=by
 obtain⟨D,h,_⟩:=h;exact h.lt
theorem ox_ {H:Type}{P:Program}{k:TypeId}{R:Value->Option (DataW H×List MemPlace)}{D:DataW H}(h:w.ownsMap P k R b n D):∃ es,D=.map es∧∀ p∈es,Maps.KeysOf P k p.1:=by
 obtain⟨es,clock,_,F,_,rfl⟩:=h;exact⟨_,rfl,fun p hp=>Maps.fit_keys F p (mem_sorted.1 hp)⟩
theorem Ea:Keyed prog 2:=Maps.int_keyed underlying2
theorem oy_ (x y:Int):(Lit.int .i64 x).sameKey (Lit.int .i64 y)=decide (x=y):=by
 by_cases h:x=y
 ·subst h;rw[WideAt.sameKey_self (show WideAt.IsKeyLit (Lit.int .i64 x) from trivial)];simp
 ·have:(Lit.int .i64 x).sameKey (Lit.int .i64 y)=false:=Maps.sameKey_ne (fun e=>h (by injection e))
  rw[this];simp[h]
theorem BE.len (h:BE w b n L)(ty:TypeId):∃ K:List Lit,(Builtin.len_ #[222] ty #[.map (some b)]).run prog w=.ok (.int .i64 K.length) w∧K.length<=n∧K.Nodup∧(∀ k∈K,∃ c∈L,k=.int .i64 c.o.a)∧∀ c∈L,Lit.int .i64 c.o.a∈K:=by
 obtain⟨D,ha,hv,hh⟩:=h;have h1:=ha.len underlying222 ty;have h2:=ha.size_le;obtain⟨es,rfl,hp⟩:=ha.tidy Ea;obtain⟨es',he,hk⟩:=ox_ ha;obtain rfl:es=es':=by injection he
 refine⟨es.map (·.1),by simpa[Maps.size] using h1,by simpa[Maps.size] using h2,?_,fun k hf=>?_,fun c hc=>?_⟩
 ·unfold List.Nodup;rw[List.pairwise_map];exact hp
 ·obtain⟨p,hb,rfl⟩:=ZT.1 hf;obtain⟨v,hg⟩:=hk p hb;obtain⟨x,_,e,_⟩:=Maps.keyOf_int_inv underlying2 hg;have h3:=hh x;rw[Maps.has_eq] at h3;have h4:es.any (fun q=>q.1.sameKey (.int .i64 x))=true:=ZN.2 ⟨p,hb,by rw[e,oy_];simp⟩;rw[h4] at h3;obtain⟨c,hc,e2⟩:=ZN.1 h3.symm;exact⟨c,hc,by rw[e];simp at e2;rw[e2]⟩
 ·have h3:=hh c.o.a;rw[show L.any (fun c'=>c'.o.a==c.o.a)=true from ZN.2 ⟨c,hc,by simp⟩,Maps.has_eq] at h3;obtain⟨p,hb,e⟩:=ZN.1 h3;exact ZT.2 ⟨p,hb,WideAt.sameKey_eq e⟩
end
section
open Go Go.RowKit Go.BigFrame Tryz
variable{p:Po}{w:World}
theorem AF.cells {B:Nat}{v:Value}(h:AF B w v p):∃ ea en ec va vn vc ra rn rc la ln lc,v=.agg #[.int .i64 p.size,.int .i64 p.next,.slice ea en ec,.slice va vn vc,.slice ra rn rc,.slice la ln lc]:=by
 obtain⟨ea,en,ec,va,vn,vc,ra,rn,rc,la,ln,lc,rfl,_⟩:=h;exact⟨_,_,_,_,_,_,_,_,_,_,_,_,rfl⟩
end
section
open Go Go.RowKit Go.BigFrame Tryz
variable{r:IR}{y:It}{rows:List IR}{l:List It}{B k:Nat}{w:World}
theorem AC.set (k:Nat)(h:AC B w rows l)(h':BU B w r y):AC B w (rows.set k r) (l.set k y):=⟨by simp[h.len],mB_ h.at' h'⟩
def BC (w:World)(g:Nat)(a:Addr):Prop:=w.cell? ⟨g,0,none⟩=some (.iface 277 (.pointer (some a)))
end
section
open Go Go.RowKit Go.BigFrame Tryz
open Go.Maps (Keyed)
variable{b n:Nat}{w:World}
theorem AZ.mono {n':Nat}{f:Ow->Int}(h:AZ w b n f)(hn:n<=n'):AZ w b n' f:=by
 obtain⟨D,h,h2⟩:=h;exact⟨D,h.mono hn,h2⟩
theorem AZ.kept {w':World}{f:Ow->Int}{row:Option Nat}(h:AZ w b n f)(hg:w.grownBy w' row)(hne:some b≠row):AZ w' b n f:=by
 obtain⟨D,h,h2⟩:=h;exact⟨D,h.kept hg hne,h2⟩
end
section
open Go Go.RowKit Go.BigFrame
open Go.Maps (Keyed)
variable{v:Vo}
def BM (v:Vo):Lit:=.string v.nm.data.toList
end
section
open Go Go.RowKit Go.BigFrame Tryz
open Go.ChangeMaps Go.MapKept Go.WideElems
open Go.Maps (Keyed)
variable{L:List Ct}{b n:Nat}{v:Value}{w:World}
theorem BE.kept {w':World}{row:Option Nat}(h:BE w b n L)(hg:w.grownBy w' row)(hne:some b≠row):BE w' b n L:=by
 obtain⟨D,h,h2⟩:=h;exact⟨D,h.kept hg hne,h2⟩
structure DC (D:DataW Unit)(po:Nat)(l:List Vo):Prop where
 has:∀ s:List UInt8,Maps.has D (.string s)=l.any (fun v=>v.nm.data.toList==s)
 size:Maps.size D<=l.length
 full:Maps.size D=l.length↔(l.map (·.nm.toList)).Nodup
 val:(l.map (·.nm.toList)).Nodup->∀ i v,l[i]?=some v->∀ z,D.atKey (BM v) z=.lit (.int .i64 ((po+i*4:Nat):Int))
theorem DC.put {D:DataW Unit}{po:Nat}{l:List Vo}(hT:Maps.Tidy D)(h:DC D po l)(v:Vo):DC (D.put (BM v) (.lit (.int .i64 ((po+l.length*4:Nat):Int)))) po (l++[v]):=by
 have hk:WideAt.IsKeyLit (BM v):=trivial
 have hc:Maps.has D (BM v)=true↔v.nm.toList∈l.map (·.nm.toList):=by
  unfold BM;rw[h.has,ZN,ZT];constructor
  ·rintro⟨u,hu,e⟩;exact⟨u,hu,by rw[Zu,Zu];simpa using e⟩
  ·rintro⟨u,hu,e⟩;rw[Zu,Zu] at e;exact⟨u,hu,by simpa using e⟩
 have hnd:((l++[v]).map (·.nm.toList)).Nodup↔(l.map (·.nm.toList)).Nodup∧¬ v.nm.toList∈l.map (·.nm.toList):=by
  rw[List.map_append,Yf];constructor
  ·rintro⟨h1,_,h3⟩;exact⟨h1,fun hm=>h3 _ hm _ (by simp) rfl⟩
  ·rintro⟨h1,h2⟩;exact⟨h1,by simp,fun a ha b hb e=>by simp at hb;subst hb;subst e;exact h2 ha⟩
 have hs:=h.size;refine⟨fun s=>?_,?_,?_,fun hn i u hu z=>?_⟩
 ·rw[List.any_append];by_cases e:v.nm.data.toList=s
  ·subst e;rw[show (Lit.string v.nm.data.toList)=BM v from rfl,Maps.has_put_same hT.isMap hk];simp
  ·rw[Maps.has_put_other (fun e2=>e (by unfold BM at e2;injection e2 with e2;exact e2.symm)),h.has];simp[e]
 ·rw[Maps.size_put hT,ZE];split<;>simp<;>omega
 ·rw[Maps.size_put hT,ZE,hnd,<-hc,<-h.full]
  cases hh:Maps.has D (BM v)<;>simp<;>omega
 ·obtain⟨h1,h2⟩:=hnd.1 hn;by_cases hi:i<l.length
  ·rw[ZD hi] at hu
   have hf:BM u≠BM v:=fun e=>h2 (by
    unfold BM at e;injection e with e;exact ZT.2 ⟨u,Zc hu,by rw[Zu,Zu,e]⟩)
   rw[Maps.atKey_put_other hf];exact h.val h1 i u hu z
  ·rw[Zv (by omega)] at hu
   have he:i=l.length:=by
    have:=(Zb.1 hu).1
    simp at this;omega
   subst he;simp at hu;subst hu;rw[Maps.atKey_put_same hT.isMap hk]
end
section
open Go Go.RowKit Go.BigFrame
open Go.Maps (Keyed)
variable{b:Nat}{w:World}
structure Fy (B:Nat)(w:World)(b o:Nat)(x:Vo):Prop where
 id:w.cell? ⟨b,o,none⟩=some (.int .i64 x.id)
 nm:w.cell? ⟨b,o+1,none⟩=some (.string x.nm)
 its:∃ qa qn qc,w.cell? ⟨b,o+3,none⟩=some (.slice qa qn qc)∧Bf B w qa qn x.its∧Hd B qa qn qc
theorem Fy.below {B:Nat}{w':World}{o:Nat}{x:Vo}(h:Fy B w b o x)(hb:Below w.heap.size w w'):Fy B w' b o x:=by
 obtain⟨h1,h2,qa,qn,qc,h3,h4,h5⟩:=h;exact⟨Ab hb h1,Ab hb h2,qa,qn,qc,Ab hb h3,h4.below hb,h5⟩
end
section
open Go Go.RowKit Go.BigFrame
variable{rows:List VR}{B i vb vc vn:Nat}{r:VR}{y:Vo}{w w':World}
structure Foc (B vb vn vc i:Nat)(rows:List VR)(r:VR)(y:Vo)(w:World):Prop where
 rv:Ad vrs 4 38 w B (some ⟨vb,0,none⟩) vn vc rows
 hi:rows[i]?=some r
 v:Bd B w r y
 ris:EP y.its
 len:y.its.length<=4000000
 str:Ge y.its
theorem Foc.below (h:Foc B vb vn vc i rows r y w)(hb:Below w.heap.size w w'):Foc B vb vn vc i rows r y w':=⟨h.rv.below hb,h.hi,h.v.below hb,h.ris,h.len,h.str⟩
end
section
open Go Go.RowKit Go.BigFrame Tryz
variable{file:ByteArray}{w w':World}
structure BO (S:Addr->Prop)(w:World):Prop where
 op:∃ a,BC w 1 a∧S a
 volume:∃ a,BC w 4 a∧S a
 file:∃ a,BC w 8 a∧S a
 bytes:∃ a,BC w 9 a∧S a
 there:∃ a,BC w 6 a∧S a
 fixed:∃ a,BC w 5 a∧S a
 room:∃ a,BC w 7 a∧S a
 parts:∃ a,BC w 10 a∧S a
 after:∃ a,BC w 2 a∧S a
theorem BC.below {g:Nat}{a:Addr}(h:BC w g a)(hb:Below w.heap.size w w'):BC w' g a:=Ab hb h
theorem BO.below {S:Addr->Prop}(h:BO S w)(hb:Below w.heap.size w w'):BO S w':=by
 obtain⟨⟨a1,h1,s1⟩,⟨a2,h2,s2⟩,⟨a3,h3,s3⟩,⟨a4,h4,s4⟩,⟨a5,h5,s5⟩,⟨a6,h6,s6⟩,⟨a7,h7,s7⟩,⟨a8,h8,s8⟩,⟨a9,h9,s9⟩⟩:=h;exact⟨⟨a1,h1.below hb,s1⟩,⟨a2,h2.below hb,s2⟩,⟨a3,h3.below hb,s3⟩,⟨a4,h4.below hb,s4⟩,⟨a5,h5.below hb,s5⟩,⟨a6,h6.below hb,s6⟩,⟨a7,h7.below hb,s7⟩,⟨a8,h8.below hb,s8⟩,⟨a9,h9.below hb,s9⟩⟩
end
section
open Go Go.RowKit Go.BigFrame Tryz
variable{α:Type}{rows:List VR}{vs:List Vo}{B b ec en lc ln' n pb rc rn vc vn:Nat}{ea la ra:Option Addr}{p:Po}{y:Vo}{w w':World}{x:α}
theorem BE.below {L:List Ct}(h:BE w b n L)(hb:Below w.heap.size w w'):BE w' b n L:=h.kept (row:=none) ⟨hb.os,hb.tape,hb.output,hb.size,fun k hk _=>hb.block k hk⟩ (by simp)
structure Own (B pb:Nat)(w:World)(p:Po)(ea:Option Addr)(en ec:Nat)(va:Option Addr)(vn vc:Nat)(ra:Option Addr)(rn rc:Nat)(la:Option Addr)(ln' lc:Nat)(rows:List VR):Prop where
 P:Blk w pb #[.int .i64 p.size,.int .i64 p.next,.slice ea en ec,.slice va vn vc,.slice ra rn rc,.slice la ln' lc] 28
 RE:Ad Ex.cs 2 42 w B ea en ec p.ex
 RV:Ad vrs 4 38 w B va vn vc rows
 T:Ax B w rows p.vs
 RR:Ad Ct.cs 4 46 w B ra rn rc p.rf
 RL:Ad Ct.cs 4 46 w B la ln' lc p.lt
 sep:∀ x y,ra=some x->la=some y->0<rc->0<lc->x.block≠y.block
 sepV:Cw rows
 np:NP w rows
theorem Own.below {va:Option Addr}(h:Own B pb w p ea en ec va vn vc ra rn rc la ln' lc rows)(hb:Below w.heap.size w w'):Own B pb w' p ea en ec va vn vc ra rn rc la ln' lc rows:=⟨h.P.below hb,h.RE.below hb,h.RV.below hb,h.T.below hb,h.RR.below hb,h.RL.below hb,h.sep,h.sepV,dc_ h.T h.np hb⟩
end
section
open Go Go.RowKit Go.BigFrame Tryz
open Go.Maps (Keyed)
variable{o:Ow}
theorem HM:(44:TypeId)<prog.types.size:=of_decide_eq_true (by kernel_rfl)
theorem Hw:(match prog.underlying 44 with | some (.array _ _) | some (.struct _)=>true | _=>false)=true:=by kernel_rfl
theorem HJ:WideMaps.KeyLaw prog 44:=deep_law_laid He (m:=3) (by omega) HM (by kernel_rfl) Hw
def vO (o:Ow):Value:=.agg #[.int .i64 o.a,.int .i64 o.v,.string o.f]
theorem GN (h:WfO o):keyOf prog 44 (vO o)=some (klO o):=by
 obtain⟨a,v,f⟩:=o;obtain⟨h1,h2,h3⟩:=h;have hk:prog.keyType 44=true:=by kernel_rfl
 have hc:prog.cellsOf 44=3:=by kernel_rfl
 have ha:prog.cellsOf 2=1:=by kernel_rfl
 have hb:prog.cellsOf 9=1:=by kernel_rfl
 obtain⟨d,hd⟩:=Nat.exists_eq_succ_of_ne_zero (Nat.ne_of_gt (Nat.zero_lt_of_lt HM));unfold keyOf vO klO;rw[hd]
 have k2:∀ x:Int,(Lit.int .i64 x).wf=true->prog.keyLits d.succ 2 [.int .i64 x]=some [.int .i64 x]:=fun x hx=>by
  unfold Program.keyLits;simp only[underlying2];rw[if_pos ⟨trivial,hx⟩]
 have k9:prog.keyLits d.succ 9 [.string f]=some [.string f.data.toList]:=by
  unfold Program.keyLits;simp only[underlying9];rw[if_pos h3]
 have e1:=k2 a h1;have e2:=k2 v h2;clear k2 hd;generalize d.succ=D at *;simp only[underlying44,hk,Value.formed,hc,Value.cells];rw[if_pos (by rfl)];unfold Program.keyLits;simp only[underlying44,hc];rw[if_pos (by exact⟨rfl,by decide +kernel⟩)];simp[ha,hb,e1,e2,k9]
theorem mO_ {o':Ow}(h:WfO o)(h':WfO o')(e:klO o=klO o'):o=o':=by
 have h1:=GN h;have h2:=GN h';rw[<-e] at h2
 have:=HJ.inj h1 h2
 simp[vO] at this;obtain⟨a,v,f⟩:=o;obtain⟨a',v',f'⟩:=o';simp at this;simp[this]
end
section
open Go Go.RowKit Go.BigFrame Tryz
open Go.Maps (Keyed)
variable{out:List Ct}{o:Ow}{x:Value}
structure Col (f:Ow->Int)(left:Lit->Bool)(out:List Ct):Prop where
 wf:∀ c∈out,WfO c.o∧left (klO c.o)=false
 nz:Bi out
 ne:out.Pairwise (fun x y=>x.o≠y.o)
 sum:∀ o,WfO o->left (klO o)=false->tot o out=f o
theorem bB_:∀ {l:List Ct},(∀ c∈l,c.o≠o)->tot o l=0
 |[],_=>rfl
 |c::r,h=>by
  have h1:Bx c.o o=false:=by
   cases e:Bx c.o o
   ·rfl
   ·exact absurd (aM_.1 e) (h c (by simp))
  simp only[tot,h1,Zj,if_false];rw[bB_ (fun x hx=>h x (by simp[hx]))];rfl
theorem pF_ (o:Ow):WideAt.IsKeyLit (klO o):=trivial
theorem FM {left:Lit->Bool}{o':Ow}(h:WfO o)(h':WfO o'):(left (klO o')&&!(klO o').sameKey (klO o))=(left (klO o')&&!Bx o o'):=by
 by_cases e:o=o'
 ·subst e;rw[WideAt.sameKey_self (pF_ o),a3_]
 ·have h1:(klO o').sameKey (klO o)=false:=by
   cases hs:(klO o').sameKey (klO o)
   ·rfl
   ·exact absurd (mO_ h h' (WideAt.sameKey_eq hs).symm) e
  have h2:Bx o o'=false:=by
   cases hs:Bx o o'
   ·rfl
   ·exact absurd (aM_.1 hs) e
  rw[h1,h2]
theorem Col.take {f:Ow->Int}{left:Lit->Bool}(h:Col f left out)(ho:WfO o)(hl:left (klO o)=true)(hf:f o≠0):Col f (fun z=>left z&&!z.sameKey (klO o)) (out++[⟨o,f o⟩]):=by
 have ha:∀ c∈out,c.o≠o:=fun c hc e=>by have:=(h.wf c hc).2;rw[e,hl] at this;cases this
 refine⟨fun c hc=>?_,fun c hc=>?_,?_,fun o' he hb=>?_⟩
 ·rcases Zs.1 hc with hc | hc
  ·exact⟨(h.wf c hc).1,by simp[(h.wf c hc).2]⟩
  ·simp at hc;subst hc;refine⟨ho,?_⟩;rw[FM ho ho,a3_];simp
 ·rcases Zs.1 hc with hc | hc
  ·exact h.nz c hc
  ·simp at hc;subst hc;exact hf
 ·rw[List.pairwise_append];refine⟨h.ne,by simp,fun x hx y hy=>?_⟩;simp at hy;subst hy;exact ha x hx
 ·rw[FM ho he] at hb;rw[bn_];by_cases e:o=o'
  ·subst e;rw[bB_ ha];simp[tot,a3_]
  ·have h2:Bx o o'=false:=by
    cases hs:Bx o o'
    ·rfl
    ·exact absurd (aM_.1 hs) e
   rw[h2] at hb;rw[h.sum o' he (by simpa using hb)];simp[tot,h2]
end
section
open Go Go.RowKit Go.BigFrame Tryz
variable{r:IR}{rows:List IR}{l:List Pt}{B i:Nat}{y:Vo}{w:World}
theorem AC.cons {y:It}{l:List It}(h:BU B w r y)(h':AC B w rows l):AC B w (r::rows) (y::l):=
 ⟨by simp[h'.len],fun i q z h1 h2=>by
  cases i with
  |zero=>simp at h1 h2;subst h1 h2;exact h
  |succ i=>exact h'.at' i q z (by simpa using h1) (by simpa using h2)⟩
end
section
open Go Go.RowKit Go.BigFrame Tryz
variable{rows:List VR}{l:List Vo}{B i:Nat}{r:VR}{y:Vo}{w:World}
theorem Ax.cons (h:Bd B w r y)(h':Ax B w rows l):Ax B w (r::rows) (y::l):=
 ⟨by simp[h'.len],fun i q z h1 h2=>by
  cases i with
  |zero=>simp at h1 h2;subst h1 h2;exact h
  |succ i=>exact h'.at' i q z (by simpa using h1) (by simpa using h2)⟩
end
section
open Go Go.RowKit Go.BigFrame
variable{b:Nat}{a:Option Addr}{w w':World}
theorem BO.grown {S:Addr->Prop}(h:BO S w)(hg:w.grownBy w' (some b))(hb:11<=b):BO S w':=by
 have hk:∀ g a,g<11->BC w g a->BC w' g a:=fun g a ha hs=>hg.cell hs (by simp;omega);obtain⟨⟨a1,h1,s1⟩,⟨a2,h2,s2⟩,⟨a3,h3,s3⟩,⟨a4,h4,s4⟩,⟨a5,h5,s5⟩,⟨a6,h6,s6⟩,⟨a7,h7,s7⟩,⟨a8,h8,s8⟩,⟨a9,h9,s9⟩⟩:=h;exact⟨⟨a1,hk _ _ (by decide) h1,s1⟩,⟨a2,hk _ _ (by decide) h2,s2⟩,⟨a3,hk _ _ (by decide) h3,s3⟩,⟨a4,hk _ _ (by decide) h4,s4⟩,⟨a5,hk _ _ (by decide) h5,s5⟩,⟨a6,hk _ _ (by decide) h6,s6⟩,⟨a7,hk _ _ (by decide) h7,s7⟩,⟨a8,hk _ _ (by decide) h8,s8⟩,⟨a9,hk _ _ (by decide) h9,s9⟩⟩
end
section
open Go Go.RowKit Go.BigFrame Tryz
open Go.ChangeMaps Go.MapKept Go.WideElems
open Go.Maps (Keyed)
variable{v:Value}
theorem DC.nil (po:Nat):DC (.map []) po []:=⟨fun _=>rfl,Zd _,by simp[Maps.size],fun _ i v h=>by simp at h⟩
end
section
open Go Go.RowKit
variable{p:Pt}
theorem fx_ {x:Int}(h0:0<=x)(h1:x<=1000000):wrap64 x=x:=by unfold wrap64;omega
theorem mQ_ {fr to st:Int}(h:max (fr-st) 0<min (to-st) p.n):1<=(Be p (max (fr-st) 0) (min (to-st) p.n)).n∧(Be p (max (fr-st) 0) (min (to-st) p.n)).n<=p.n:=by
 rw[gf_];omega
theorem hT_ (fr to:Int)(l:List Pt):∀ st,(∀ p∈l,1<=p.n)->(∀ p∈slp fr to st l,1<=p.n)∧Af (slp fr to st l)<=Af l∧(slp fr to st l).length<=l.length∧0<=Af l:=by
 induction l with
 |nil=>intro st _;simp[slp,Af]
 |cons p r ih=>
  intro st h;have hp:=h p (by simp);obtain⟨h1,h2,h3,h4⟩:=ih (st+p.n) (fun q hq=>h q (by simp[hq]));by_cases hx:max (fr-st) 0<min (to-st) p.n
  ·have hb:=mQ_ hx;rw[eN_ rfl rfl hx];refine⟨?_,by simp only[Af];omega,by simp;omega,by simp only[Af];omega⟩;intro q hq;rcases Zn.1 hq with rfl | hq
   ·exact hb.1
   ·exact h1 q hq
  ·rw[fo_ hx];exact⟨h1,by simp only[Af];omega,by simp;omega,by simp only[Af];omega⟩
end
section
open Go Go.RowKit
variable{B y:Int}{l:List Pt}{p x:Pt}
theorem aX_ {q:Option Pt}{r:List Pt}:pgo q B (p::r)=true↔Ag p=true∧p.n<=B∧(∀ x,q=some x->Aw x p=false)∧pgo (some p) (B-p.n) r=true:=by
 cases q with
 |none=>simp[pgo,and_assoc]
 |some x=>simp[pgo,and_assoc]
theorem f4_ (l:List Pt):∀ (q:Option Pt) (B c:Int),pgo q B l=true->Af l<=c->0<=c->pgo q c l=true:=by
 induction l with
 |nil=>intro q B c _ _ _;cases q<;>rfl
 |cons p r ih=>
  intro q B c h hs hc;obtain⟨h1,h2,h3,h4⟩:=aX_.1 h;simp only[Af] at hs;have ha:=cH_ r (some p) (B-p.n) (by omega) h4;have hr:=az_ r ha.1;exact aX_.2 ⟨h1,by omega,h3,ih (some p) (B-p.n) (c-p.n) h4 (by omega) (by omega)⟩
theorem kS_ (l:List Pt):∀ (q:Option Pt) (B:Int) (p:Pt),pgo q B l=true->Ag p=true->Af l+p.n<=B->(∀ x,(l.getLast?.or q)=some x->Aw x p=false)->pgo q B (l++[p])=true:=by
 induction l with
 |nil=>
  intro q B p _ hp hs hx;simp only[Af] at hs;exact aX_.2 ⟨hp,by omega,fun x hq=>hx x (by simpa using hq),rfl⟩
 |cons y r ih=>
  intro q B p h hp hs hx;obtain⟨h1,h2,h3,h4⟩:=aX_.1 h;simp only[Af] at hs;refine aX_.2 ⟨h1,h2,h3,ih (some y) (B-y.n) p h4 hp (by omega) ?_⟩;intro x ha;refine hx x ?_
  cases r with
  |nil=>simpa using ha
  |cons z t=>
   obtain⟨v,hv⟩:∃ v,(z::t).getLast?=some v:=⟨_,List.getLast?_cons⟩;rw[hv] at ha;rw[List.getLast?_cons_cons,hv];exact ha
theorem oJ_ (l:List Pt):∀ (q:Option Pt) (B:Int) (p:Pt),pgo q B (l++[p])=true->pgo q B l=true∧Ag p=true∧Af l+p.n<=B∧(∀ x,(l.getLast?.or q)=some x->Aw x p=false):=by
 induction l with
 |nil=>
  intro q B p h;obtain⟨h1,h2,h3,_⟩:=aX_.1 h;exact⟨by cases q<;>rfl,h1,by simp only[Af];omega,fun x hx=>h3 x (by simpa using hx)⟩
 |cons y r ih=>
  intro q B p h;obtain⟨h1,h2,h3,h4⟩:=aX_.1 h;obtain⟨k1,k2,k3,k4⟩:=ih (some y) (B-y.n) p h4;refine⟨aX_.2 ⟨h1,h2,h3,k1⟩,k2,by simp only[Af];omega,?_⟩;intro x hx;refine k4 x ?_
  cases r with
  |nil=>simpa using hx
  |cons z t=>
   obtain⟨v,hv⟩:∃ v,(z::t).getLast?=some v:=⟨_,List.getLast?_cons⟩;rw[List.getLast?_cons_cons,hv] at hx;rw[hv];exact hx
theorem nF_ (hx:Ag x=true)(hp:Ag p=true)(hg:Aw x p=true):Ag ⟨x.a,x.f,x.n+p.n⟩=true:=by
 have h1:=av_ hx;have h2:=av_ hp;simp only[Aw,Zf,Bool.or_eq_true,beq_iff_eq] at hg;obtain⟨ha,hg⟩:=hg;unfold Ag at *;by_cases h0:x.a=0
 ·simp[h0] at hx ⊢;omega
 ·have hb:(x.a==0)=false:=by simp[h0]
  have hc:(p.a==0)=false:=by simp;omega
  simp only[hb,hc,Zj,if_false,Zf,ZU] at hx hp ⊢;rcases hg with hg | hg
  ·omega
  ·rw[fx_ (by omega) (by omega)] at hg;omega
theorem pL_ (h:pgo none B l=true)(hp:Ag p=true)(hs:Af l+p.n<=B)(hB:B<=1000)(h0:0<=B):pgo none B (AI l p)=true∧Af (AI l p)=Af l+p.n:=by
 rcases List.eq_nil_or_concat l with rfl | ⟨L,x,rfl⟩
 ·simp only[Af] at hs;exact⟨aX_.2 ⟨hp,by omega,fun x hx=>(by cases hx),rfl⟩,by simp[AI,Af]⟩
 ·rw[List.concat_eq_append] at *;have hl:(L++[x]).getLast?=some x:=by simp
  cases hg:Aw x p
  ·have e:AI (L++[x]) p=L++[x]++[p]:=by simp[AI,hg]
   rw[e];exact⟨kS_ _ none B p h hp hs (fun y hy=>by simp at hy;subst hy;exact hg),by rw[a5_];simp[Af]⟩
  ·obtain⟨k1,k2,k3,k4⟩:=oJ_ L none B x h;rw[a5_] at hs;simp only[Af] at hs;have hL:=az_ L (cH_ L none B h0 k1).1;have hb:=av_ k2;have ha:=av_ hp
   have e:AI (L++[x]) p=L++[⟨x.a,x.f,x.n+p.n⟩]:=by
    simp only[AI,hl,hg,if_true,List.dropLast_concat];rw[fx_ (by omega) (by omega)]
   rw[e];refine⟨kS_ L none B _ k1 (nF_ k2 hp hg) (by show Af L+(x.n+p.n)<=B;omega) k4,?_⟩;rw[a5_,a5_];simp[Af];omega
theorem f5_ (h:Ac l=true):pgo none 100 l=true:=by
 simp[Ac] at h;exact h.2
theorem kU_ {fr to:Int}(l:List Pt):∀ st,to<=st->(∀ p∈l,1<=p.n)->slp fr to st l=[]:=by
 induction l with
 |nil=>intro st _ _;rfl
 |cons p r ih=>
  intro st h hp
  have:=hp p (by simp)
  rw[fo_ (by omega)];exact ih _ (by omega) (fun q hq=>hp q (by simp[hq]))
theorem p9_ {x:Int}(h:Ag p=true)(h0:0<=x)(h1:x<y)(h2:y<=p.n):Ag (Be p x y)=true:=by
 unfold Ag at *;unfold Be;by_cases ha:p.a=0
 ·simp[ha];omega
 ·have hb:(p.a==0)=false:=by simp[ha]
  simp only[hb,Zj,if_false,Zf,ZU] at h ⊢;omega
def HB (x x':Pt):Prop:=x'.a=x.a∧(x.a=0∨x'.f+x'.n=x.f+x.n)
theorem oK_ {x':Pt}(ht:HB x x')(hg:Aw x p=false):Aw x' (Be p 0 y)=false:=by
 obtain⟨h1,h2⟩:=ht;unfold Aw at *;unfold Be;by_cases ha:p.a=0
 ·simp[ha] at hg ⊢;rw[h1];exact hg
 ·have hb:(p.a==0)=false:=by simp[ha]
  simp only[hb,Zj,if_false,Bool.false_or,Int.add_zero] at hg ⊢;rw[h1];rcases h2 with h2 | h2
  ·have:(p.a==x.a)=false:=by rw[h2];exact hb
   simp[this]
  ·rw[h2];exact hg
theorem qa_ (fr to:Int)(l:List Pt):∀ (st B:Int) (q q':Option Pt),0<=B->pgo q B l=true->(∀ x',q'=some x'->fr<=st∧∃ x,q=some x∧HB x x')->pgo q' B (slp fr to st l)=true:=by
 induction l with
 |nil=>intro st B q q' _ _ _;cases q'<;>rfl
 |cons p r ih=>
  intro st B q q' hB h hq;obtain⟨h1,h2,h3,h4⟩:=aX_.1 h;have hm:=av_ h1;have hg:=cH_ r (some p) (B-p.n) (by omega) h4;have hc:∀ y∈r,1<=y.n:=fun y hy=>av_ (hg.1 y hy);by_cases hx:max (fr-st) 0<min (to-st) p.n
  ·rw[eN_ rfl rfl hx];have hb:=mQ_ hx
   have he:pgo (some (Be p (max (fr-st) 0) (min (to-st) p.n))) (B-p.n) (slp fr to (st+p.n) r)=true:=by
    by_cases hy:p.n<=to-st
    ·refine ih (st+p.n) (B-p.n) (some p) _ (by omega) h4 ?_;intro x' hf;obtain rfl:=Zi hf;refine⟨by omega,p,rfl,?_⟩;unfold HB Be;by_cases ha:p.a=0
     ·simp[ha]
     ·have hj:(p.a==0)=false:=by simp[ha]
      simp only[hj,Zj,if_false];exact⟨trivial,.inr (by omega)⟩
    ·rw[kU_ r (st+p.n) (by omega) hc];rfl
   have hh:=hT_ fr to r (st+p.n) hc;refine aX_.2 ⟨p9_ h1 (by omega) hx (by omega),by omega,?_,f4_ _ _ _ _ he (by omega) (by omega)⟩;intro x' hf;obtain⟨hk,x,hl,ht⟩:=hq x' hf;have e:max (fr-st) 0=0:=by omega
   rw[e];exact oK_ ht (h3 x hl)
  ·rw[fo_ hx]
   cases q' with
   |some x'=>
    obtain⟨hk,_⟩:=hq x' rfl;rw[kU_ r (st+p.n) (by omega) hc];rfl
   |none=>
    have:=ih (st+p.n) (B-p.n) (some p) none (by omega) h4 (fun x' hf=>(by cases hf))
    have hh:=hT_ fr to r (st+p.n) hc;exact f4_ _ _ _ _ this (by omega) hB
theorem b8_ (h:Ac l=true)(fr to:Int):pgo none 100 (slp fr to 0 l)=true:=
 qa_ fr to l 0 100 none none (by omega) (f5_ h) (fun x' ha=>(by cases ha))
end
section
open Go Go.RowKit
variable{l:List Vo}{o:Opr}{p:Po}
theorem kW_ {c:Ct}:∀ {l:List Ct} {x:Ct},x∈Bk l c->x.o=c.o∨∃ d∈l,x.o=d.o
 |[],x,h=>by simp[Bk] at h;subst h;exact .inl rfl
 |y::r,x,h=>by
  unfold Bk at h;split at h
  ·rcases Zn.1 h with rfl | h
   ·exact .inr ⟨x,by simp,rfl⟩
   ·rcases kW_ h with h | ⟨d,hd,h⟩
    ·exact .inl h
    ·exact .inr ⟨d,by simp[hd],h⟩
  ·split at h
   ·split at h
    ·rcases Zn.1 h with rfl | h
     ·exact .inl rfl
     ·exact .inr ⟨x,by simp[h],rfl⟩
    ·exact .inr ⟨x,by simp[h],rfl⟩
   ·rcases Zn.1 h with rfl | h
    ·exact .inl rfl
    ·exact .inr ⟨x,h,rfl⟩
theorem eI_:∀ {m l:List Ct} {x:Ct},x∈AQ l m->(∃ d∈l,x.o=d.o)∨∃ d∈m,x.o=d.o
 |[],l,x,h=>.inl ⟨x,h,rfl⟩
 |c::r,l,x,h=>by
  rcases eI_ (m:=r) (l:=Bk l c) h with⟨d,hd,h⟩ | ⟨d,hd,h⟩
  ·rcases kW_ hd with h' | ⟨y,hy,h'⟩
   ·exact .inr ⟨c,by simp,h.trans h'⟩
   ·exact .inl ⟨y,hy,h.trans h'⟩
  ·exact .inr ⟨d,by simp[hd],h⟩
theorem aQ_ (h:Ai p=true):Ao p.size p.ex=true∧(1<=p.next∧p.next<=1000000000)∧DO p.vs∧AN p.rf=true∧A3 p.lt=true:=by
 unfold Ai at h;simp only[Zf,ZU] at h;obtain⟨⟨⟨⟨⟨⟨h1,h2⟩,h3⟩,h4⟩,_⟩,h6⟩,_⟩:=h;simp only[CJ,Zf,ZU] at h4;refine⟨h1,⟨h2,h3⟩,g2_ h4.1 h4.2,?_⟩;unfold Aq at h6;split at h6
 ·cases h6
 ·rename_i s hs;split at hs
  ·rename_i hh;exact hh
  ·cases hs
end
section
open Go Go.RowKit
variable{d:ByteArray}{size:Int}
theorem hZ_:∀ (a b:List Ex),EL (a++b)=EL a+EL b
 |[],b=>by simp[EL]
 |e::r,b=>by simp only[YF,EL,hZ_ r b];omega
theorem h0_ (hd:As d=true):∀ {l:List Ex} {next:Int} (k j:Nat) (x:Int),xgo size next l=true->B5 size d.size k next l=some (j,x)->
  k<=j∧next<=x∧j-k<=l.length∧xgo size next (l.take (j-k)++⟨x,d⟩::l.drop (j-k))=true∧Cr x (l.take (j-k)++⟨x,d⟩::l.drop (j-k))=l
 |[],next,k,j,x,h,hp=>by
  rw[B5] at hp;split at hp
  ·rename_i hm;simp only[Zo,Prod.mk.injEq] at hp;obtain⟨rfl,rfl⟩:=hp;refine⟨Zd _,by omega,by simp,?_,?_⟩
   ·simp[xgo,hd];omega
   ·simp[Cr]
  ·cases hp
 |e::r,next,k,j,x,h,hp=>by
  rw[B5] at hp;have h0:=h;simp only[xgo,Zf,ZU] at h;obtain⟨⟨⟨h1,h2⟩,h3⟩,h4⟩:=h;have hb:=bl_ h1;have hc:=bl_ hd;split at hp
  ·rename_i hm;simp only[Zo,Prod.mk.injEq] at hp;obtain⟨rfl,rfl⟩:=hp
   have hx:xgo size (next+d.size) (e::r)=true:=by
    simp only[xgo,Zf,ZU];exact⟨⟨⟨h1,by omega⟩,h3⟩,h4⟩
   refine⟨Zd _,by omega,by simp,?_,?_⟩
   ·rw[Nat.sub_self,Yx,YC,ZM,xgo];simp only[Zf,ZU];exact⟨⟨⟨hd,by omega⟩,by omega⟩,hx⟩
   ·rw[Nat.sub_self,Yx,YC,ZM];have e1:Cr next (⟨next,d⟩::e::r)=Cr next (e::r):=by simp[Cr]
    rw[e1];exact fe_ hx (by omega)
  ·obtain⟨q1,q2,q3,q4,q5⟩:=h0_ hd (k+1) j x h4 hp;have ej:j-k=(j-(k+1))+1:=by omega
   rw[ej];refine⟨by omega,by omega,by simp;omega,?_,?_⟩
   ·rw[ZP,ZR,YF,xgo];simp only[Zf,ZU];exact⟨⟨⟨h1,h2⟩,h3⟩,q4⟩
   ·rw[ZP,ZR,YF];have ha:(e.a==x)=false:=ZV.2 (by omega);have e1:∀ m:List Ex,Cr x (e::m)=e::Cr x m:=fun m=>by simp[Cr,ha]
    rw[e1,q5]
theorem jC_ {x:Int}{l L:List Ex}(h:AV size l d=some (L,x)):
  Ao size l=true∧As d=true∧Ao size L=true∧L.length=l.length+1∧l.length<60∧EH size L x=some l∧EL L=EL l+d.size∧∀ e∈L,e∈l∨e=⟨x,d⟩:=by
 rw[<-hE_] at h;unfold Bq at h;split at h
 ·rename_i hc;obtain⟨hf,hd,hg⟩:=hc;obtain⟨h1,h2,h3,h4⟩:=cu_ hf
  cases hp:B5 size d.size 0 1 l with
  |none=>rw[hp] at h;cases h
  |some y=>
   obtain⟨j,x'⟩:=y;rw[hp] at h;simp only[Option.map_some,Zo,Prod.mk.injEq] at h;obtain⟨rfl,rfl⟩:=h;obtain⟨q1,q2,q3,q4,q5⟩:=h0_ hd 0 j x' h4 hp;rw[Nat.sub_zero] at q3 q4 q5;have eL:l.take j++[⟨x',d⟩]++l.drop j=l.take j++⟨x',d⟩::l.drop j:=by simp
   rw[eL];have hb:(l.take j++⟨x',d⟩::l.drop j:List Ex).length=l.length+1:=by simp;omega
   have ha:Ao size (l.take j++⟨x',d⟩::l.drop j)=true:=by
    simp only[Ao,Zf,ZU];exact⟨⟨⟨h1,h2⟩,by omega⟩,q4⟩
   refine⟨hf,hd,ha,hb,by omega,?_,?_,?_⟩
   ·unfold EH;rw[if_pos ⟨ha,by rw[q5];omega⟩,q5]
   ·rw[hZ_]
    conv=>rhs;rw[<-YM j l,hZ_]
    simp only[EL];omega
   ·intro e he;rcases Zs.1 he with he | he
    ·exact .inl (ZX he)
    ·rcases Zn.1 he with he | he
     ·exact .inr he
     ·exact .inl (List.mem_of_mem_drop he)
 ·cases h
end
section
open Go Go.RowKit Go.BigFrame
variable{rows:List VR}{B i vb vc vn:Nat}{r:VR}{y:Vo}{w w':World}
theorem Foc.tyP {row:Option Nat}(h:Foc B vb vn vc i rows r y w)(hg:w.grownBy w' row)(hr:By w row 28):Foc B vb vn vc i rows r y w':=⟨h.rv.ty hg hr (by decide),h.hi,h.v.ty hg hr (by decide) (by decide),h.ris,h.len,h.str⟩
end
section
open Go Go.RowKit Go.BigFrame Tryz
variable{α:Type}{rows:List VR}{i:Nat}{r:VR}{y:Vo}{x:α}
theorem f1_:Cw rows↔rows.Pairwise (fun r s=>∀ x y,r.pa=some x->s.pa=some y->x.block≠y.block):=by
 rw[Yb];constructor
 ·intro h i j hi hj hb x y hx hy;exact h i j _ _ x y (by omega) (by simp[hi]) (by simp[hj]) hx hy
 ·intro h i j r s x y hb h1 h2 hx hy;obtain⟨hi,rfl⟩:=Zb.1 h1;obtain⟨hj,rfl⟩:=Zb.1 h2;rcases Nat.lt_or_gt_of_ne hb with ha | ha
  ·exact h i j hi hj ha x y hx hy
  ·exact fun e=>h j i hj hi ha y x hy hx e.symm
theorem Cw.snoc (h:Cw rows)(hn:∀ q∈rows,∀ x y,q.pa=some x->r.pa=some y->x.block≠y.block):Cw (rows++[r]):=by
 rw[f1_,List.pairwise_append];exact⟨f1_.1 h,List.pairwise_singleton _ _,fun q hq s hs=>by simp only[YP] at hs;subst hs;exact hn q hq⟩
end
section
open Go Go.RowKit
variable{B:Int}{l m:List Pt}{p:Pt}
theorem kT_ (m:List Pt):∀ (l:List Pt) (B:Int),pgo none B l=true->(∀ p∈m,Ag p=true)->Af l+Af m<=B->B<=1000->0<=B->pgo none B (Ak l m)=true∧Af (Ak l m)=Af l+Af m:=by
 induction m with
 |nil=>intro l B h _ _ _ _;exact⟨h,by simp[Ak,Af]⟩
 |cons p t ih=>
  intro l B h hm hs hB h0;simp only[Af] at hs;have ht:=az_ t (fun q hq=>hm q (by simp[hq]));obtain⟨a1,a2⟩:=pL_ h (hm p (by simp)) (by omega) hB h0;obtain⟨b1,b2⟩:=ih (AI l p) B a1 (fun q hq=>hm q (by simp[hq])) (by omega) hB h0;exact⟨b1,by show Af (Ak (AI l p) t)=_;rw[b2,a2];simp[Af];omega⟩
end
section
open Go Go.RowKit Go.BigFrame Tryz
theorem bH_ {p:Po}{vol file:ByteArray}(hp:Ai p=true):Ac ((Ar p.vs vol file).getD [])=true:=by
 cases h:Ar p.vs vol file with
 |none=>rfl
 |some ps=>exact (bb_ hp h).1
end
section
open Go Go.RowKit Go.BigFrame Tryz
variable{size:Int}
theorem oM_:∀ {L:List Ex} {next:Int},xgo size next L=true->1<=next->∀ x∈ggo size next L,1<=x.1∧x.1<=size
 |[],next,_,h1,x,hx=>by
  unfold ggo at hx;split at hx
  ·simp at hx;subst hx;exact⟨h1,by assumption⟩
  ·cases hx
 |e::r,next,h,h1,x,hx=>by
  simp only[xgo,Zf,ZU] at h;have ha:=bl_ h.1.1.1;unfold ggo at hx;rcases Zs.1 hx with hx | hx
  ·split at hx
   ·simp at hx;subst hx;simp only;omega
   ·cases hx
  ·exact oM_ h.2 (by omega) x hx
theorem gw_ {a:Int}{l L:List Ex}{d:ByteArray}(h:AV size l d=some (L,a)):1<=a∧a<=400:=by
 unfold AV at h;split at h
 ·rename_i hc;obtain⟨s1,s2,_,hx⟩:=cu_ hc.1
  cases hf:(ggo size 1 l).find? (fun x=>decide ((d.size:Int)<=x.2)) with
  |none=>rw[hf] at h;simp at h
  |some y=>
   rw[hf] at h;simp at h
   have:=oM_ hx (by omega) y (List.mem_of_find?_eq_some hf)
   omega
 ·cases h
end
section
open Go Go.RowKit
variable{l:List Vo}{p:Po}
theorem f8_ (h:DB l):Bw (AA l):=by
 intro c hc;rcases eI_ hc with⟨d,hd,_⟩ | ⟨d,hd,e⟩
 ·cases hd
 ·rw[e];unfold A7 at hd;obtain⟨v,hv,hd⟩:=ZL.1 hd;unfold Ei at hd;obtain⟨x,hx,hd⟩:=ZL.1 hd;unfold AS at hd;obtain⟨p,_,rfl⟩:=ZT.1 hd;exact ((h v hv).2.2 x hx).1
theorem g7_ {l m:List Ct}(hl:Bw l)(hm:Bw m):Bw (AQ l m):=by
 intro c hc;rcases eI_ hc with⟨d,hd,e⟩ | ⟨d,hd,e⟩
 ·rw[e];exact hl d hd
 ·rw[e];exact hm d hd
theorem mV_ {l:List Ct}(h:Bw l):Bw (Cn l):=by
 intro c hc;obtain⟨d,hd,rfl⟩:=ZT.1 hc;exact h d hd
end
section
open Go Go.RowKit Go.BigFrame
open Go.Maps (Keyed)
variable{l:List Vo}{v:Vo}
theorem iU_ (id:Int)(nm:ByteArray)(ps:List Pt):∀ c∈AS id nm ps,c.n=1:=by
 intro c hc;obtain⟨p,_,rfl⟩:=ZT.1 hc;rfl
theorem ju_ (v:Vo)(l:List It):∀ c∈A0 v l,c.n=1:=by
 intro c hc;obtain⟨x,_,hx⟩:=ZL.1 hc;exact iU_ _ _ _ c hx
theorem fZ_ (l:List Vo):∀ c∈A7 l,c.n=1:=by
 intro c hc;obtain⟨v,_,hv⟩:=ZL.1 hc;exact ju_ v v.its c hv
theorem cy_ {l:List Ct}(h:∀ c∈l,c.n=1)(o:Ow):0<=tot o l∧tot o l<=l.length:=by
 induction l with
 |nil=>simp[tot]
 |cons c r ih=>
  have h1:=ih (fun x hx=>h x (by simp[hx]));have h2:=h c (by simp);simp only[tot,Zw];split<;>omega
end
section
open Go Go.RowKit Go.BigFrame Tryz
open Go.Maps (Keyed)
theorem hO_ (l:List Vo):Bi (A7 l):=fun c hc=>by rw[fZ_ l c hc];decide
end
section
open Go Go.RowKit Go.BigFrame
open Go.Maps (Keyed)
variable{vs:List Vo}
theorem pH_ (hn:(vs.map (·.nm.toList)).Nodup){i:Nat}{v:Vo}(h:vs[i]?=some v):volI vs v.nm=some i:=by
 unfold volI;obtain⟨hi,rfl⟩:=Zb.1 h;rw[ZA];refine⟨hi,by simp,fun j hj=>?_⟩;unfold List.Nodup at hn;rw[List.pairwise_map,Yb] at hn
 have:=hn j i (by omega) hi hj
 simpa using this
end
section
open Go.RowKit Go.Shelf Tryz
variable{t:TypeId}{A:World}
attribute [local go_sem] YJ
theorem KpG.refl (n₀ Bs:Nat)(t:TypeId)(A:World):KpG n₀ Bs t A A:=⟨Yg _ _,fun _ _ h=>h,fun _ h=>h⟩
end
end Go.Proofs.YtdmeabghpchckaaGreatDoor
