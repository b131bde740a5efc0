/- What is laid on a file's parts, put into its volume. -/
import Derived.Lib.Overlaps
import Derived.Laws.CopyOwn
import Derived.Shelf.SlSortCmp.NoneTotal
import Derived.Maps.RangeWalk
import Derived.WideKeyEntry
import Derived.Test.YteejlahappbalaaGreatDoorU06
set_option maxHeartbeats 20000000
set_option maxRecDepth 100000
namespace Go.Proofs.YteejlahappbalaaGreatDoor
section
open Go.Shelf Go.RowKit Go.Lib Go.Sort Tryz
theorem rr{p:Prop}(h:p:=by decide +kernel):p:=h
end
section
open Go Go.RowKit Go.BigFrame Tryz
open Go.Maps (Keyed)
variable{b n:Nat}{o:Ow}{w:World}
structure WfO (o:Ow):Prop where
 a:(Lit.int .i64 o.a).wf=true
 v:(Lit.int .i64 o.v).wf=true
 f:o.f.size<=maxLen
theorem UA:(68:TypeId)<prog.types.size:=of_decide_eq_true sI
theorem TP:(match prog.underlying 68 with | some (.array _ _) | some (.struct _)=>true | _=>false)=true:=by kernel_rfl
theorem Uq:WideMaps.KeyLaw prog 68:=deep_law_laid SF (m:=3) sH UA sI TP
def vO (o:Ow):Value:=.agg #[.int .i64 o.a,.int .i64 o.v,.string o.f]
def klO (o:Ow):Lit:=.string (keyBytes [.int .i64 o.a,.int .i64 o.v,.string o.f.data.toList])
theorem Qp (h:WfO o):keyOf prog 68 (vO o)=some (klO o):=by
 obtain⟨a,v,f⟩:=o;obtain⟨h1,h2,h3⟩:=h;have hk:prog.keyType 68=true:=sI;have hc:prog.cellsOf 68=3:=sI;have ha:prog.cellsOf 2=1:=sI;have hb:prog.cellsOf 9=1:=sI;obtain⟨d,hd⟩:=Nat.exists_eq_succ_of_ne_zero (Nat.ne_of_gt (Nat.zero_lt_of_lt UA));unfold keyOf vO klO;rw[hd];have k2:∀ x:Int,(Lit.int .i64 x).wf=true->prog.keyLits d.succ 2 [.int .i64 x]=some [.int .i64 x]:=fun x hx=>by
  unfold Program.keyLits;simp only[underlying2];rw[if_pos ⟨trivial,hx⟩]
 have k9:prog.keyLits d.succ 9 [.string f]=some [.string f.data.toList]:=by
  unfold Program.keyLits;simp only[underlying9];rw[if_pos h3]
 have e1:=k2 a h1;have e2:=k2 v h2;clear k2 hd;generalize d.succ=D at *;simp only[underlying68,hk,Value.formed,hc,Value.cells];rw[if_pos (by rfl)];unfold Program.keyLits;simp only[underlying68,hc];rw[if_pos (by exact⟨rfl,rr⟩)];simp[ha,hb,e1,e2,k9]
theorem mO_ {o':Ow}(h:WfO o)(h':WfO o')(e:klO o=klO o'):o=o':=by
 have h1:=Qp h;have h2:=Qp h';rw[<-e] at h2;have:=Uq.inj h1 h2;simp[vO] at this;obtain⟨a,v,f⟩:=o;obtain⟨a',v',f'⟩:=o';simp at this;simp[this]
def Br (w:World)(b n:Nat)(f:Ow->Int):Prop:=
 ∃ D:DataW Unit,w.ownsMap prog 68 (plainElem prog 2) b n D∧∀ o,WfO o->D.atKey (klO o) (.lit (.int .i64 0))=.lit (.int .i64 (f o))
theorem Br.lt {f:Ow->Int}(h:Br w b n f):b<w.heap.size:=by
 obtain⟨D,h,_⟩:=h;exact h.lt
end
section
open Go Go.RowKit Go.BigFrame Tryz
open Go.Maps (Keyed)
variable{out:List Ct}{o:Ow}{x:Value}
structure Col (f:Ow->Int)(left:Lit->Bool)(out:List Ct):Prop where
 wf:∀ c∈out,WfO c.o∧left (klO c.o)=false
 nz:BS out
 ne:out.Pairwise (fun x y=>x.o≠y.o)
 sum:∀ o,WfO o->left (klO o)=false->tot o out=f o
theorem bB_:∀ {l:List Ct},(∀ c∈l,c.o≠o)->tot o l=0
 |[],_=>rfl
 |c::r,h=>by
  have h1:Cn c.o o=false:=by
   cases e:Cn c.o o
   ·rfl
   ·exact absurd (aM_.1 e) (h c sK)
  simp only[tot,h1,Zj,if_false];rw[bB_ (fun x hx=>h x rv)];rfl
theorem pF_ (o:Ow):WideAt.IsKeyLit (klO o):=trivial
theorem pN{p:Prop}(h:p:=by
 cases hs:Cn o o'
 ·rfl
 ·exact absurd (aM_.1 hs) e):p:=h
theorem MX {left:Lit->Bool}{o':Ow}(h:WfO o)(h':WfO o'):(left (klO o')&&!(klO o').sameKey (klO o))=(left (klO o')&&!Cn o o'):=by
 by_cases e:o=o'
 ·subst e;rw[WideAt.sameKey_self (pF_ o),a3_]
 ·have h1:(klO o').sameKey (klO o)=false:=by
   cases hs:(klO o').sameKey (klO o)
   ·rfl
   ·exact absurd (mO_ h h' (WideAt.sameKey_eq hs).symm) e
  have h2:Cn o o'=false:=by
   exact pN
  rw[h1,h2]
theorem Col.take {f:Ow->Int}{left:Lit->Bool}(h:Col f left out)(ho:WfO o)(hl:left (klO o)=true)(hf:f o≠0):Col f (fun z=>left z&&!z.sameKey (klO o)) (out++[⟨o,f o⟩]):=by
 have ha:∀ c∈out,c.o≠o:=fun c hc e=>by have:=(h.wf c hc).2;rw[e,hl] at this;cases this
 refine⟨fun c hc=>?_,fun c hc=>?_,?_,fun o' he hb=>?_⟩
 ·rcases Zs.1 hc with hc | hc
  ·exact⟨(h.wf c hc).1,by simp[(h.wf c hc).2]⟩
  ·simp at hc;subst hc;refine⟨ho,?_⟩;rw[MX ho ho,a3_];simp
 ·rcases Zs.1 hc with hc | hc
  ·exact h.nz c hc
  ·simp at hc;subst hc;exact hf
 ·rw[List.pairwise_append];refine⟨h.ne,sK,fun x hx y hy=>?_⟩;simp at hy;subst hy;exact ha x hx
 ·rw[MX ho he] at hb;rw[bn_];by_cases e:o=o'
  ·subst e;rw[bB_ ha];simp[tot,a3_]
  ·have h2:Cn o o'=false:=by
    exact pN
   rw[h2] at hb;rw[h.sum o' he (by simpa using hb)];simp[tot,h2]
end
section
open Go Go.RowKit Go.BigFrame
open Go.Maps (Keyed)
def Gz (x:Int)(L:List Ct):Int:=((L.countP (fun c=>c.o.a==x):Nat):Int)
end
section
open Go Go.RowKit Go.BigFrame Tryz
open Go.ChangeMaps Go.MapKept Go.WideElems
open Go.Maps (Keyed)
variable{x:Int}{L:List Ct}{b n:Nat}{w:World}
def Df (w:World)(b n:Nat)(L:List Ct):Prop:=
 ∃ D:DataW Unit,w.ownsMap prog 2 (plainElem prog 2) b n D∧(∀ x,(Lit.int .i64 x).wf=true->D.atKey (.int .i64 x) (.lit (.int .i64 0))=.lit (.int .i64 (Gz x L)))∧∀ x:Int,Maps.has D (.int .i64 x)=L.any (fun c=>c.o.a==x)
theorem Df.lt (h:Df w b n L):b<w.heap.size:=by
 obtain⟨D,h,_⟩:=h;exact h.lt
end
section
open Go.ChangeMaps Go.MapKept Go.WideElems
open Go.Maps (Keyed)
theorem dq{p:Prop}(h:p:=by simpa using h2):p:=h
end
section
open Go Go.RowKit Go.BigFrame Tryz
open Go.Maps (Keyed)
theorem dG{p:Prop}(h:p:=by simpa using e):p:=h
end
section
open Go Go.RowKit Go.BigFrame Tryz
open Go.ChangeMaps Go.MapKept Go.WideElems
open Go.Maps (Keyed)
variable{x:Int}{L:List Ct}{b n:Nat}{v:Value}{w:World}
theorem ox_ {H:Type}{P:Program}{k:TypeId}{R:Value->Option (DataW H×List MemPlace)}{D:DataW H}(h:w.ownsMap P k R b n D):∃ es,D=.map es∧∀ p∈es,Maps.KeysOf P k p.1:=by
 obtain⟨es,clock,_,F,_,rfl⟩:=h;exact⟨_,rfl,fun p hp=>Maps.fit_keys F p (mem_sorted.1 hp)⟩
theorem IE:Keyed prog 2:=Maps.int_keyed underlying2
theorem oy_ (x y:Int):(Lit.int .i64 x).sameKey (Lit.int .i64 y)=decide (x=y):=by
 by_cases h:x=y
 ·subst h;rw[WideAt.sameKey_self (show WideAt.IsKeyLit (Lit.int .i64 x) from trivial)];simp
 ·have:(Lit.int .i64 x).sameKey (Lit.int .i64 y)=false:=Maps.sameKey_ne (fun e=>h (by injection e));rw[this];simp[h]
theorem Df.len (h:Df w b n L)(ty:TypeId):∃ K:List Lit,(Builtin.len_ #[127] ty #[.map (some b)]).run prog w=.ok (.int .i64 K.length) w∧K.length<=n∧K.Nodup∧(∀ k∈K,∃ c∈L,k=.int .i64 c.o.a)∧∀ c∈L,Lit.int .i64 c.o.a∈K:=by
 obtain⟨D,ha,hv,hh⟩:=h;have h1:=ha.len underlying127 ty;have h2:=ha.size_le;obtain⟨es,rfl,hp⟩:=ha.tidy IE;obtain⟨es',he,hk⟩:=ox_ ha;obtain rfl:es=es':=by injection he
 refine⟨es.map (·.1),by simpa[Maps.size] using h1,by simpa[Maps.size] using h2,?_,fun k hf=>?_,fun c hc=>?_⟩
 ·unfold List.Nodup;rw[List.pairwise_map];exact hp
 ·obtain⟨p,hb,rfl⟩:=ZT.1 hf;obtain⟨v,hg⟩:=hk p hb;obtain⟨x,_,e,_⟩:=Maps.keyOf_int_inv underlying2 hg;have h3:=hh x;rw[Maps.has_eq] at h3;have h4:es.any (fun q=>q.1.sameKey (.int .i64 x))=true:=ZN.2 ⟨p,hb,by rw[e,oy_];simp⟩;rw[h4] at h3;obtain⟨c,hc,e2⟩:=ZN.1 h3.symm;exact⟨c,hc,by rw[e];simp at e2;rw[e2]⟩
 ·have h3:=hh c.o.a;rw[show L.any (fun c'=>c'.o.a==c.o.a)=true from ZN.2 ⟨c,hc,sK⟩,Maps.has_eq] at h3;obtain⟨p,hb,e⟩:=ZN.1 h3;exact ZT.2 ⟨p,hb,WideAt.sameKey_eq e⟩
end
section
open Go Go.RowKit Go.BigFrame Tryz
variable{r:IR}{rows:List IR}{l:List Pt}{B i:Nat}{y:Vo}{w:World}
theorem AV.cons {y:It}{l:List It}(h:EL B w r y)(h':AV B w rows l):AV B w (r::rows) (y::l):=
 ⟨by simp[h'.len],fun i q z h1 h2=>by
  cases i with
  |zero=>simp at h1 h2;subst h1 h2;exact h
  |succ i=>exact h'.at' i q z rR dq⟩
end
section
open Go Go.RowKit Go.BigFrame Tryz
variable{rows:List VR}{l:List Vo}{B i:Nat}{r:VR}{y:Vo}{w:World}
theorem Bc.cons (h:Et B w r y)(h':Bc B w rows l):Bc B w (r::rows) (y::l):=
 ⟨by simp[h'.len],fun i q z h1 h2=>by
  cases i with
  |zero=>simp at h1 h2;subst h1 h2;exact h
  |succ i=>exact h'.at' i q z rR dq⟩
end
section
open Go Go.RowKit Go.BigFrame Tryz
variable{p:Po}{w:World}
theorem AC.cells {B:Nat}{v:Value}(h:AC B w v p):∃ ea en ec va vn vc ra rn rc la ln lc,v=.agg #[.int .i64 p.size,.int .i64 p.next,.slice ea en ec,.slice va vn vc,.slice ra rn rc,.slice la ln lc]:=by
 obtain⟨ea,en,ec,va,vn,vc,ra,rn,rc,la,ln,lc,rfl,_⟩:=h;exact⟨_,_,_,_,_,_,_,_,_,_,_,_,rfl⟩
end
section
open Go Go.RowKit Go.BigFrame Tryz
open Go.Maps (Keyed)
variable{b n:Nat}{o:Ow}{w:World}
theorem Br.mono {n':Nat}{f:Ow->Int}(h:Br w b n f)(hn:n<=n'):Br w b n' f:=by
 obtain⟨D,h,h2⟩:=h;exact⟨D,h.mono hn,h2⟩
theorem Br.kept {w':World}{f:Ow->Int}{row:Option Nat}(h:Br w b n f)(hg:w.grownBy w' row)(hne:some b≠row):Br w' b n f:=by
 obtain⟨D,h,h2⟩:=h;exact⟨D,h.kept hg hne,h2⟩
theorem sB{p:Prop}(h:p:=by obtain⟨D,⟨es,clock,hb,_⟩,_⟩:=h;rintro rfl;simp[World.cell?,hb] at hc):p:=h
theorem Br.apart {f:Ow->Int}(h:Br w b n f){bb o:Nat}{v:Value}(hc:w.cell? ⟨bb,o,none⟩=some v):bb≠b:=by
 exact sB
end
section
open Go Go.RowKit Go.BigFrame
open Go.Maps (Keyed)
variable{v:Vo}
def CZ (v:Vo):Lit:=.string v.nm.data.toList
end
section
open Go Go.RowKit Go.BigFrame Tryz
open Go.ChangeMaps Go.MapKept Go.WideElems
open Go.Maps (Keyed)
variable{L:List Ct}{b n:Nat}{v:Value}{w:World}
theorem Df.kept {w':World}{row:Option Nat}(h:Df w b n L)(hg:w.grownBy w' row)(hne:some b≠row):Df w' b n L:=by
 obtain⟨D,h,h2⟩:=h;exact⟨D,h.kept hg hne,h2⟩
theorem Df.apart (h:Df w b n L){bb o:Nat}(hc:w.cell? ⟨bb,o,none⟩=some v):bb≠b:=by
 exact sB
structure Jf (D:DataW Unit)(po:Nat)(l:List Vo):Prop where
 has:∀ s:List UInt8,Maps.has D (.string s)=l.any (fun v=>v.nm.data.toList==s)
 size:Maps.size D<=l.length
 full:Maps.size D=l.length↔(l.map (·.nm.toList)).Nodup
 val:(l.map (·.nm.toList)).Nodup->∀ i v,l[i]?=some v->∀ z,D.atKey (CZ v) z=.lit (.int .i64 ((po+i*4:Nat):Int))
theorem Jf.nil (po:Nat):Jf (.map []) po []:=⟨fun _=>rfl,Zd _,by simp[Maps.size],fun _ i v h=>by simp at h⟩
theorem Jf.put {D:DataW Unit}{po:Nat}{l:List Vo}(hT:Maps.Tidy D)(h:Jf D po l)(v:Vo):Jf (D.put (CZ v) (.lit (.int .i64 ((po+l.length*4:Nat):Int)))) po (l++[v]):=by
 have hk:WideAt.IsKeyLit (CZ v):=trivial;have hc:Maps.has D (CZ v)=true↔v.nm.toList∈l.map (·.nm.toList):=by
  unfold CZ;rw[h.has,ZN,ZT];constructor
  ·rintro⟨u,hu,e⟩;exact⟨u,hu,by rw[Zu,Zu];simpa using e⟩
  ·rintro⟨u,hu,e⟩;rw[Zu,Zu] at e;exact⟨u,hu,dG⟩
 have hnd:((l++[v]).map (·.nm.toList)).Nodup↔(l.map (·.nm.toList)).Nodup∧¬ v.nm.toList∈l.map (·.nm.toList):=by
  rw[List.map_append,Yf];constructor
  ·rintro⟨h1,_,h3⟩;exact⟨h1,fun hm=>h3 _ hm _ sK rfl⟩
  ·rintro⟨h1,h2⟩;exact⟨h1,sK,fun a ha b hb e=>by simp at hb;subst hb;subst e;exact h2 ha⟩
 have hs:=h.size;refine⟨fun s=>?_,?_,?_,fun hn i u hu z=>?_⟩
 ·rw[List.any_append];by_cases e:v.nm.data.toList=s
  ·subst e;rw[show (Lit.string v.nm.data.toList)=CZ v from rfl,Maps.has_put_same hT.isMap hk];simp
  ·rw[Maps.has_put_other (fun e2=>e (by unfold CZ at e2;injection e2 with e2;exact e2.symm)),h.has];simp[e]
 ·rw[Maps.size_put hT,ZE];split<;>simp<;>omega
 ·rw[Maps.size_put hT,ZE,hnd,<-hc,<-h.full]
  cases hh:Maps.has D (CZ v)<;>simp<;>omega
 ·obtain⟨h1,h2⟩:=hnd.1 hn;by_cases hi:i<l.length
  ·rw[ZD hi] at hu
   have hf:CZ u≠CZ v:=fun e=>h2 (by
    unfold CZ at e;injection e with e;exact ZT.2 ⟨u,Zc hu,by rw[Zu,Zu,e]⟩)
   rw[Maps.atKey_put_other hf];exact h.val h1 i u hu z
  ·rw[Zv sH] at hu;have he:i=l.length:=by
    have:=(Zb.1 hu).1;simp at this;omega
   subst he;simp at hu;subst hu;rw[Maps.atKey_put_same hT.isMap hk]
end
section
open Go Go.RowKit Go.BigFrame
open Go.Maps (Keyed)
variable{b:Nat}{w:World}
structure RM (B:Nat)(w:World)(b o:Nat)(x:Vo):Prop where
 id:w.cell? ⟨b,o,none⟩=some (.int .i64 x.id)
 nm:w.cell? ⟨b,o+1,none⟩=some (.string x.nm)
 its:∃ qa qn qc,w.cell? ⟨b,o+3,none⟩=some (.slice qa qn qc)∧BT B w qa qn x.its∧Hd B qa qn qc
theorem RM.below {B:Nat}{w':World}{o:Nat}{x:Vo}(h:RM B w b o x)(hb:Below w.heap.size w w'):RM B w' b o x:=by
 obtain⟨h1,h2,qa,qn,qc,h3,h4,h5⟩:=h;exact⟨Ab hb h1,Ab hb h2,qa,qn,qc,Ab hb h3,h4.below hb,h5⟩
end
section
open Go Go.RowKit Go.BigFrame Tryz
variable{b n:Nat}{w w':World}
theorem Df.below {L:List Ct}(h:Df w b n L)(hb:Below w.heap.size w w'):Df w' b n L:=h.kept (row:=none) ⟨hb.os,hb.tape,hb.output,hb.size,fun k hk _=>hb.block k hk⟩ sK
end
section
open Go Go.RowKit Go.BigFrame Tryz
variable{r:IR}{y:It}{rows:List IR}{l:List It}{B k:Nat}{w:World}
theorem AV.set (k:Nat)(h:AV B w rows l)(h':EL B w r y):AV B w (rows.set k r) (l.set k y):=⟨dr,mB_ h.at' h'⟩
end
section
open Go Go.RowKit
variable{p:Pt}
theorem oz{p:Prop}(h:p:=by simpa using hx):p:=h
end
section
open Go Go.RowKit Go.BigFrame Tryz
open Go.Maps (Keyed)
theorem sW{p:Prop}(h:p:=by simp only[ne_eq,Zo];omega):p:=h
end
section
open Go Go.RowKit Go.BigFrame
open Go.Sort (SWO PermIn SortedIn grow putRow mapBlock onCells putCells putRowK flatK HoldsK)
open Go.Proofs (sortWorldK)
theorem rV{p:Prop}(h:p:=by simpa using hlt):p:=h
end
section
open Go Go.RowKit Go.BigFrame Tryz
variable{e:List Ex}
theorem hR_:∀ {l:List It} {q:Option It},igo e q l=true->∀ x∈l,nameB x.nm=true
 |[],_,_,x,hx=>by simp at hx
 |y::r,q,h,x,hx=>by
  simp only[igo,Zf] at h;rcases Zn.1 hx with rfl | hx
  ·exact h.1.1.1
  ·exact hR_ h.2 x hx
end
section
open Go Go.RowKit Go.BigFrame
variable{rows:List VR}{B i vb vc vn:Nat}{r:VR}{y:Vo}{w:World}
theorem Et.at (V:Et B w r y)(RV:Ac vrs 4 115 w B (some ⟨vb,0,none⟩) vn vc rows)(hi:rows[i]?=some r):RM B w vb (i*4) y:=by
 obtain⟨e1,e2,e3,rs,R,T⟩:=V;have c0:=RV.cellAt (j:=0) hi rfl;have c1:=RV.cellAt (j:=1) hi rfl;have c3:=RV.cellAt (j:=3) hi rfl;rw[e1] at c0;rw[e2] at c1;exact⟨c0,c1,r.pa,r.pn,r.pc,c3,T.rows.its R,R.hd⟩
end
section
open Go Go.RowKit Go.BigFrame Tryz
open Go.Sort (SWO PermIn SortedIn grow HoldsK)
open Go.Proofs (sortWorldK)
theorem dm{p:Prop}(h:p:=by simpa using hj):p:=h
end
section
open Go Go.RowKit Go.BigFrame Tryz
theorem kX_ (a b:ByteArray):(a++b).size=a.size+b.size:=ByteArray.size_append
end
section
open Go Go.RowKit Go.BigFrame
open Go.Maps (Keyed)
variable{l:List Vo}{v:Vo}
theorem iU_ (id:Int)(nm:ByteArray)(ps:List Pt):∀ c∈AX id nm ps,c.n=1:=by
 intro c hc;obtain⟨p,_,rfl⟩:=ZT.1 hc;rfl
theorem ju_ (v:Vo)(l:List It):∀ c∈BP v l,c.n=1:=by
 intro c hc;obtain⟨x,_,hx⟩:=ZL.1 hc;exact iU_ _ _ _ c hx
theorem fZ_ (l:List Vo):∀ c∈BI l,c.n=1:=by
 intro c hc;obtain⟨v,_,hv⟩:=ZL.1 hc;exact ju_ v v.its c hv
theorem cy_ {l:List Ct}(h:∀ c∈l,c.n=1)(o:Ow):0<=tot o l∧tot o l<=l.length:=by
 induction l with
 |nil=>simp[tot]
 |cons c r ih=>
  have h1:=ih (fun x hx=>h x rv);have h2:=h c sK;simp only[tot,Zw];split<;>omega
end
section
open Go Go.RowKit Go.BigFrame Tryz
open Go.Maps (Keyed)
theorem hO_ (l:List Vo):BS (BI l):=fun c hc=>by rw[fZ_ l c hc];decide
end
section
open Go Go.RowKit Go.BigFrame Tryz
variable{p:Po}
theorem rH{p:Prop}(h:p:=by simpa using zf):p:=h
end
section
open Go Go.RowKit Go.BigFrame Tryz
theorem rQ{p:Prop}(h:p:=by assumption):p:=h
end
section
open Go Go.RowKit Go.BigFrame Tryz
variable{w:World}
theorem Blk.six {b:Nat}{c0 c1 c2 c3 c4 c5:Value}{t:TypeId}(h:Blk w b #[c0,c1,c2,c3,c4,c5] t):w.cell? ⟨b,0,none⟩=some c0∧w.cell? ⟨b,1,none⟩=some c1∧w.cell? ⟨b,2,none⟩=some c2∧w.cell? ⟨b,3,none⟩=some c3∧w.cell? ⟨b,4,none⟩=some c4∧w.cell? ⟨b,5,none⟩=some c5:=
 ⟨h.cell 0,h.cell 1,h.cell 2,h.cell 3,h.cell 4,h.cell 5⟩
end
section
open Go Go.RowKit Go.BigFrame Tryz
variable{r:IR}{y:It}{e:List Ex}{rows rows2:List IR}{l:List It}{B b2 cap2 n2:Nat}{a2:Option Addr}{p:Po}{w3 wr:World}
theorem r7{p:Prop}(h:p:=by show _=_;rw[<-T.len];exact R.sl.len):p:=h
structure Kc (w:World)(B:Nat)(a2:Option Addr)(id:Int)(nm:ByteArray)(fx:Bool)(ia:Option Addr)(inn icp:Nat)(name:ByteArray)(pa:Option Addr)(pn pc:Nat)(wr:World):Prop where
 ne:∀ ad,a2=some ad->ad.block≠w.heap.size+3
 b0:Blk wr w.heap.size #[.int .i64 id,.string nm,.bool fx,.slice ia inn icp] 115
 b1:Blk wr (w.heap.size+1) #[.int .i64 0,.string ⟨#[]⟩,.bool false,.slice none 0 0] 115
 b3:Blk wr (w.heap.size+3) #[.string name,.slice pa pn pc] 125
 sz:w.heap.size+4<=wr.heap.size
 bl:Below w.heap.size w wr
theorem Kc.app {w:World}{a3:Option Addr}{id:Int}{nm:ByteArray}{fx:Bool}{ia:Option Addr}{inn icp:Nat}{name:ByteArray}{pa:Option Addr}{pn pc:Nat}{ob:Obj}
  (E:Kc w B a2 id nm fx ia inn icp name pa pn pc wr)(R:Ac irs 2 125 wr (w.heap.size+2) a2 n2 cap2 rows)(hg:(wr.alloc ob).grownBy w3 (Value.ownBlock (.slice a2 n2 cap2)))(hp:∀ ad',a3=some ad'->(∃ ad,a2=some ad∧ad.block=ad'.block)∨(wr.alloc ob).heap.size<=ad'.block):
  Kc w B a3 id nm fx ia inn icp name pa pn pc w3:=by
 have hb:∀ j,Value.ownBlock (.slice a2 n2 cap2)=some j->w.heap.size+2<=j:=aG_ fun ad ha=>(R.block ad ha).1;have hc:=E.sz;have hs:=hg.size;have ht:=(R.alloc ob).rowTy (m:=n2) (k:=cap2);simp only[YN] at hs hp;refine⟨fun ad' e=>?_,(E.b0.alloc ob).ty hg ht sJ,(E.b1.alloc ob).ty hg ht sJ,?_,sH,Yi (E.bl.alloc E.bl.size _) hg sN (fun j e=>by have:=hb j e;omega)⟩
 ·rcases hp ad' e with⟨ad,h1,h2⟩ | h1
  ·rw[<-h2];exact E.ne ad h1
  ·omega
 ·refine (hg.block _ (E.b3.alloc ob).lt (fun e=>?_)).trans (E.b3.alloc ob)
  cases a2 with
  |none=>simp[Value.ownBlock] at e
  |some ad=>simp[Value.ownBlock] at e;exact E.ne ad rfl e.symm
theorem AV.app {ob:Obj}(T:AV B wr rows l)(V:EL B wr r y)(R:Ac irs 2 125 wr b2 a2 n2 cap2 rows2)(hg:(wr.alloc ob).grownBy w3 (Value.ownBlock (.slice a2 n2 cap2))):AV B w3 (rows++[r]) (l++[y]):=
 ((T.below ((Yg _ _).alloc (Zd _) _)).snoc (V.below ((Yg _ _).alloc (Zd _) _))).ty hg (R.alloc ob).rowTy sJ
theorem EL.app {ob:Obj}(V:EL B wr r y)(R:Ac irs 2 125 wr b2 a2 n2 cap2 rows2)(hg:(wr.alloc ob).grownBy w3 (Value.ownBlock (.slice a2 n2 cap2))):EL B w3 r y:=
 ⟨V.nm,(V.ps.alloc ob).ty hg (R.alloc ob).rowTy sJ⟩
end
section
open Go Go.RowKit
variable{l:List Vo}{o:Opr}{p:Po}
theorem kW_ {c:Ct}:∀ {l:List Ct} {x:Ct},x∈BF l c->x.o=c.o∨∃ d∈l,x.o=d.o
 |[],x,h=>by simp[BF] at h;subst h;exact .inl rfl
 |y::r,x,h=>by
  unfold BF at h;split at h
  ·rcases Zn.1 h with rfl | h
   ·exact .inr ⟨x,sK,rfl⟩
   ·rcases kW_ h with h | ⟨d,hd,h⟩
    ·exact .inl h
    ·exact .inr ⟨d,by simp[hd],h⟩
  ·split at h
   ·split at h
    ·rcases Zn.1 h with rfl | h
     ·exact .inl rfl
     ·exact .inr ⟨x,dh,rfl⟩
    ·exact .inr ⟨x,dh,rfl⟩
   ·rcases Zn.1 h with rfl | h
    ·exact .inl rfl
    ·exact .inr ⟨x,h,rfl⟩
theorem eI_:∀ {m l:List Ct} {x:Ct},x∈A4 l m->(∃ d∈l,x.o=d.o)∨∃ d∈m,x.o=d.o
 |[],l,x,h=>.inl ⟨x,h,rfl⟩
 |c::r,l,x,h=>by
  rcases eI_ (m:=r) (l:=BF l c) h with⟨d,hd,h⟩ | ⟨d,hd,h⟩
  ·rcases kW_ hd with h' | ⟨y,hy,h'⟩
   ·exact .inr ⟨c,sK,h.trans h'⟩
   ·exact .inl ⟨y,hy,h.trans h'⟩
  ·exact .inr ⟨d,by simp[hd],h⟩
theorem g7_ {l m:List Ct}(hl:Cx l)(hm:Cx m):Cx (A4 l m):=by
 intro c hc;rcases eI_ hc with⟨d,hd,e⟩ | ⟨d,hd,e⟩
 ·rw[e];exact hl d hd
 ·rw[e];exact hm d hd
theorem aQ_ (h:Ai p=true):Af p.size p.ex=true∧(1<=p.next∧p.next<=1000000000)∧Ii p.vs∧AB p.rf=true∧AQ p.lt=true:=by
 unfold Ai at h;simp only[Zf,ZU] at h;obtain⟨⟨⟨⟨⟨⟨h1,h2⟩,h3⟩,h4⟩,_⟩,h6⟩,_⟩:=h;simp only[Fj,Zf,ZU] at h4;refine⟨h1,⟨h2,h3⟩,g2_ h4.1 h4.2,?_⟩;unfold As at h6;split at h6
 ·cases h6
 ·rename_i s hs;split at hs
  ·rename_i hh;exact hh
  ·cases hs
end
section
open Go Go.RowKit Go.BigFrame Tryz
variable{p:Po}
theorem Mp.dim (h:Mp p):A7 p:=by
 obtain⟨h1,h2,h3,h4⟩:=h;refine⟨by have:=h1.1;omega,h1.strs,by have:=h2.1;omega,fun v hv=>?_,by have:=h3.1;omega,h3.strs,by have:=h4.1;omega,h4.strs⟩;obtain⟨a1,a2,a3⟩:=h2.2 v hv;exact⟨sH,sH,fun x hx=>by have:=a3 x hx;omega⟩
end
end Go.Proofs.YteejlahappbalaaGreatDoor
