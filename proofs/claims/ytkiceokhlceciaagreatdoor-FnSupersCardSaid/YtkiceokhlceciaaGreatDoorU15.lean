/- What is laid on a file's parts, put into its volume. -/
import Derived.Lib.Overlaps
import Derived.Laws.CopyOwn
import Derived.Shelf.SlSortCmp.NoneTotal
import Derived.Maps.RangeWalk
import Derived.WideKeyEntry
import Derived.Test.YtkiceokhlceciaaGreatDoorU08
import Derived.Test.YtkiceokhlceciaaGreatDoorU11
set_option maxHeartbeats 20000000
set_option maxRecDepth 100000
namespace Go.Proofs.YtkiceokhlceciaaGreatDoor
section
open Go Go.RowKit Go.BigFrame Tryz
open Go.Maps (Keyed)
variable{b n:Nat}{o:Ow}{w:World}
structure WfO (o:Ow):Prop where
 a:(Lit.int .i64 o.a).wf=true
 v:(Lit.int .i64 o.v).wf=true
 f:o.f.size<=maxLen
theorem ME:(66:TypeId)<prog.types.size:=of_decide_eq_true (by kernel_rfl)
theorem Ml:(match prog.underlying 66 with | some (.array _ _) | some (.struct _)=>true | _=>false)=true:=by kernel_rfl
theorem Mz:WideMaps.KeyLaw prog 66:=deep_law_laid LN (m:=3) (by omega) ME (by kernel_rfl) Ml
def vO (o:Ow):Value:=.agg #[.int .i64 o.a,.int .i64 o.v,.string o.f]
def klO (o:Ow):Lit:=.string (keyBytes [.int .i64 o.a,.int .i64 o.v,.string o.f.data.toList])
theorem KP (h:WfO o):keyOf prog 66 (vO o)=some (klO o):=by
 obtain⟨a,v,f⟩:=o;obtain⟨h1,h2,h3⟩:=h;have hk:prog.keyType 66=true:=by kernel_rfl
 have hc:prog.cellsOf 66=3:=by kernel_rfl
 have ha:prog.cellsOf 2=1:=by kernel_rfl
 have hb:prog.cellsOf 9=1:=by kernel_rfl
 obtain⟨d,hd⟩:=Nat.exists_eq_succ_of_ne_zero (Nat.ne_of_gt (Nat.zero_lt_of_lt ME));unfold keyOf vO klO;rw[hd]
 have k2:∀ x:Int,(Lit.int .i64 x).wf=true->prog.keyLits d.succ 2 [.int .i64 x]=some [.int .i64 x]:=fun x hx=>by
  unfold Program.keyLits;simp only[underlying2];rw[if_pos ⟨trivial,hx⟩]
 have k9:prog.keyLits d.succ 9 [.string f]=some [.string f.data.toList]:=by
  unfold Program.keyLits;simp only[underlying9];rw[if_pos h3]
 have e1:=k2 a h1;have e2:=k2 v h2;clear k2 hd;generalize d.succ=D at *;simp only[underlying66,hk,Value.formed,hc,Value.cells];rw[if_pos (by rfl)];unfold Program.keyLits;simp only[underlying66,hc];rw[if_pos (by exact⟨rfl,by decide +kernel⟩)];simp[ha,hb,e1,e2,k9]
theorem mO_ {o':Ow}(h:WfO o)(h':WfO o')(e:klO o=klO o'):o=o':=by
 have h1:=KP h;have h2:=KP h';rw[<-e] at h2
 have:=Mz.inj h1 h2
 simp[vO] at this;obtain⟨a,v,f⟩:=o;obtain⟨a',v',f'⟩:=o';simp at this;simp[this]
def Bo (w:World)(b n:Nat)(f:Ow->Int):Prop:=
 ∃ D:DataW Unit,w.ownsMap prog 66 (plainElem prog 2) b n D∧∀ o,WfO o->D.atKey (klO o) (.lit (.int .i64 0))=.lit (.int .i64 (f o))
theorem Bo.lt {f:Ow->Int}(h:Bo w b n f):b<w.heap.size:=by
 obtain⟨D,h,_⟩:=h;exact h.lt
end
section
open Go Go.RowKit Go.BigFrame Tryz
open Go.Maps (Keyed)
variable{out:List Ct}{o:Ow}{x:Value}
structure Col (f:Ow->Int)(left:Lit->Bool)(out:List Ct):Prop where
 wf:∀ c∈out,WfO c.o∧left (klO c.o)=false
 nz:BO out
 ne:out.Pairwise (fun x y=>x.o≠y.o)
 sum:∀ o,WfO o->left (klO o)=false->tot o out=f o
theorem bB_:∀ {l:List Ct},(∀ c∈l,c.o≠o)->tot o l=0
 |[],_=>rfl
 |c::r,h=>by
  have h1:BV c.o o=false:=by
   cases e:BV c.o o
   ·rfl
   ·exact absurd (aM_.1 e) (h c (by simp))
  simp only[tot,h1,Zj,if_false];rw[bB_ (fun x hx=>h x (by simp[hx]))];rfl
theorem pF_ (o:Ow):WideAt.IsKeyLit (klO o):=trivial
theorem IT {left:Lit->Bool}{o':Ow}(h:WfO o)(h':WfO o'):(left (klO o')&&!(klO o').sameKey (klO o))=(left (klO o')&&!BV o o'):=by
 by_cases e:o=o'
 ·subst e;rw[WideAt.sameKey_self (pF_ o),a3_]
 ·have h1:(klO o').sameKey (klO o)=false:=by
   cases hs:(klO o').sameKey (klO o)
   ·rfl
   ·exact absurd (mO_ h h' (WideAt.sameKey_eq hs).symm) e
  have h2:BV o o'=false:=by
   cases hs:BV o o'
   ·rfl
   ·exact absurd (aM_.1 hs) e
  rw[h1,h2]
theorem Col.take {f:Ow->Int}{left:Lit->Bool}(h:Col f left out)(ho:WfO o)(hl:left (klO o)=true)(hf:f o≠0):Col f (fun z=>left z&&!z.sameKey (klO o)) (out++[⟨o,f o⟩]):=by
 have ha:∀ c∈out,c.o≠o:=fun c hc e=>by have:=(h.wf c hc).2;rw[e,hl] at this;cases this
 refine⟨fun c hc=>?_,fun c hc=>?_,?_,fun o' he hb=>?_⟩
 ·rcases Zs.1 hc with hc | hc
  ·exact⟨(h.wf c hc).1,by simp[(h.wf c hc).2]⟩
  ·simp at hc;subst hc;refine⟨ho,?_⟩;rw[IT ho ho,a3_];simp
 ·rcases Zs.1 hc with hc | hc
  ·exact h.nz c hc
  ·simp at hc;subst hc;exact hf
 ·rw[List.pairwise_append];refine⟨h.ne,by simp,fun x hx y hy=>?_⟩;simp at hy;subst hy;exact ha x hx
 ·rw[IT ho he] at hb;rw[bn_];by_cases e:o=o'
  ·subst e;rw[bB_ ha];simp[tot,a3_]
  ·have h2:BV o o'=false:=by
    cases hs:BV o o'
    ·rfl
    ·exact absurd (aM_.1 hs) e
   rw[h2] at hb;rw[h.sum o' he (by simpa using hb)];simp[tot,h2]
end
section
open Go Go.RowKit Go.BigFrame
open Go.Maps (Keyed)
def EO (x:Int)(L:List Ct):Int:=((L.countP (fun c=>c.o.a==x):Nat):Int)
end
section
open Go Go.RowKit Go.BigFrame Tryz
open Go.ChangeMaps Go.MapKept Go.WideElems
open Go.Maps (Keyed)
variable{x:Int}{L:List Ct}{b n:Nat}{v:Value}{w:World}
def CD (w:World)(b n:Nat)(L:List Ct):Prop:=
 ∃ D:DataW Unit,w.ownsMap prog 2 (plainElem prog 2) b n D∧(∀ x,(Lit.int .i64 x).wf=true->D.atKey (.int .i64 x) (.lit (.int .i64 0))=.lit (.int .i64 (EO x L)))∧∀ x:Int,Maps.has D (.int .i64 x)=L.any (fun c=>c.o.a==x)
theorem CD.lt (h:CD w b n L):b<w.heap.size:=by
 obtain⟨D,h,_⟩:=h;exact h.lt
theorem ox_ {H:Type}{P:Program}{k:TypeId}{R:Value->Option (DataW H×List MemPlace)}{D:DataW H}(h:w.ownsMap P k R b n D):∃ es,D=.map es∧∀ p∈es,Maps.KeysOf P k p.1:=by
 obtain⟨es,clock,_,F,_,rfl⟩:=h;exact⟨_,rfl,fun p hp=>Maps.fit_keys F p (mem_sorted.1 hp)⟩
theorem Gm:Keyed prog 2:=Maps.int_keyed underlying2
theorem oy_ (x y:Int):(Lit.int .i64 x).sameKey (Lit.int .i64 y)=decide (x=y):=by
 by_cases h:x=y
 ·subst h;rw[WideAt.sameKey_self (show WideAt.IsKeyLit (Lit.int .i64 x) from trivial)];simp
 ·have:(Lit.int .i64 x).sameKey (Lit.int .i64 y)=false:=Maps.sameKey_ne (fun e=>h (by injection e))
  rw[this];simp[h]
theorem CD.len (h:CD w b n L)(ty:TypeId):∃ K:List Lit,(Builtin.len_ #[162] ty #[.map (some b)]).run prog w=.ok (.int .i64 K.length) w∧K.length<=n∧K.Nodup∧(∀ k∈K,∃ c∈L,k=.int .i64 c.o.a)∧∀ c∈L,Lit.int .i64 c.o.a∈K:=by
 obtain⟨D,ha,hv,hh⟩:=h;have h1:=ha.len underlying162 ty;have h2:=ha.size_le;obtain⟨es,rfl,hp⟩:=ha.tidy Gm;obtain⟨es',he,hk⟩:=ox_ ha;obtain rfl:es=es':=by injection he
 refine⟨es.map (·.1),by simpa[Maps.size] using h1,by simpa[Maps.size] using h2,?_,fun k hf=>?_,fun c hc=>?_⟩
 ·unfold List.Nodup;rw[List.pairwise_map];exact hp
 ·obtain⟨p,hb,rfl⟩:=ZT.1 hf;obtain⟨v,hg⟩:=hk p hb;obtain⟨x,_,e,_⟩:=Maps.keyOf_int_inv underlying2 hg;have h3:=hh x;rw[Maps.has_eq] at h3;have h4:es.any (fun q=>q.1.sameKey (.int .i64 x))=true:=ZN.2 ⟨p,hb,by rw[e,oy_];simp⟩;rw[h4] at h3;obtain⟨c,hc,e2⟩:=ZN.1 h3.symm;exact⟨c,hc,by rw[e];simp at e2;rw[e2]⟩
 ·have h3:=hh c.o.a;rw[show L.any (fun c'=>c'.o.a==c.o.a)=true from ZN.2 ⟨c,hc,by simp⟩,Maps.has_eq] at h3;obtain⟨p,hb,e⟩:=ZN.1 h3;exact ZT.2 ⟨p,hb,WideAt.sameKey_eq e⟩
end
section
open Go Go.RowKit Go.BigFrame Tryz
variable{r:IR}{rows:List IR}{l:List Pt}{B i:Nat}{y:Vo}{w:World}
theorem A3.cons {y:It}{l:List It}(h:Ec B w r y)(h':A3 B w rows l):A3 B w (r::rows) (y::l):=
 ⟨by simp[h'.len],fun i q z h1 h2=>by
  cases i with
  |zero=>simp at h1 h2;subst h1 h2;exact h
  |succ i=>exact h'.at' i q z (by simpa using h1) (by simpa using h2)⟩
end
section
open Go Go.RowKit Go.BigFrame Tryz
variable{rows:List VR}{l:List Vo}{B i:Nat}{r:VR}{y:Vo}{w:World}
theorem Bc.cons (h:CE B w r y)(h':Bc B w rows l):Bc B w (r::rows) (y::l):=
 ⟨by simp[h'.len],fun i q z h1 h2=>by
  cases i with
  |zero=>simp at h1 h2;subst h1 h2;exact h
  |succ i=>exact h'.at' i q z (by simpa using h1) (by simpa using h2)⟩
end
section
open Go Go.RowKit Go.BigFrame Tryz
variable{p:Po}{w:World}
theorem AW.cells {B:Nat}{v:Value}(h:AW B w v p):∃ ea en ec va vn vc ra rn rc la ln lc,v=.agg #[.int .i64 p.size,.int .i64 p.next,.slice ea en ec,.slice va vn vc,.slice ra rn rc,.slice la ln lc]:=by
 obtain⟨ea,en,ec,va,vn,vc,ra,rn,rc,la,ln,lc,rfl,_⟩:=h;exact⟨_,_,_,_,_,_,_,_,_,_,_,_,rfl⟩
end
section
open Go Go.RowKit Go.BigFrame Tryz
open Go.Maps (Keyed)
variable{b n:Nat}{w:World}
theorem Bo.mono {n':Nat}{f:Ow->Int}(h:Bo w b n f)(hn:n<=n'):Bo w b n' f:=by
 obtain⟨D,h,h2⟩:=h;exact⟨D,h.mono hn,h2⟩
theorem Bo.kept {w':World}{f:Ow->Int}{row:Option Nat}(h:Bo w b n f)(hg:w.grownBy w' row)(hne:some b≠row):Bo w' b n f:=by
 obtain⟨D,h,h2⟩:=h;exact⟨D,h.kept hg hne,h2⟩
end
section
open Go Go.RowKit Go.BigFrame
open Go.Maps (Keyed)
variable{v:Vo}
def Cr (v:Vo):Lit:=.string v.nm.data.toList
end
section
open Go Go.RowKit Go.BigFrame Tryz
open Go.ChangeMaps Go.MapKept Go.WideElems
open Go.Maps (Keyed)
variable{L:List Ct}{b n:Nat}{v:Value}{w:World}
theorem CD.kept {w':World}{row:Option Nat}(h:CD w b n L)(hg:w.grownBy w' row)(hne:some b≠row):CD w' b n L:=by
 obtain⟨D,h,h2⟩:=h;exact⟨D,h.kept hg hne,h2⟩
structure Gz (D:DataW Unit)(po:Nat)(l:List Vo):Prop where
 has:∀ s:List UInt8,Maps.has D (.string s)=l.any (fun v=>v.nm.data.toList==s)
 size:Maps.size D<=l.length
 full:Maps.size D=l.length↔(l.map (·.nm.toList)).Nodup
 val:(l.map (·.nm.toList)).Nodup->∀ i v,l[i]?=some v->∀ z,D.atKey (Cr v) z=.lit (.int .i64 ((po+i*4:Nat):Int))
theorem Gz.nil (po:Nat):Gz (.map []) po []:=⟨fun _=>rfl,Zd _,by simp[Maps.size],fun _ i v h=>by simp at h⟩
theorem Gz.put {D:DataW Unit}{po:Nat}{l:List Vo}(hT:Maps.Tidy D)(h:Gz D po l)(v:Vo):Gz (D.put (Cr v) (.lit (.int .i64 ((po+l.length*4:Nat):Int)))) po (l++[v]):=by
 have hk:WideAt.IsKeyLit (Cr v):=trivial
 have hc:Maps.has D (Cr v)=true↔v.nm.toList∈l.map (·.nm.toList):=by
  unfold Cr;rw[h.has,ZN,ZT];constructor
  ·rintro⟨u,hu,e⟩;exact⟨u,hu,by rw[Zu,Zu];simpa using e⟩
  ·rintro⟨u,hu,e⟩;rw[Zu,Zu] at e;exact⟨u,hu,by simpa using e⟩
 have hnd:((l++[v]).map (·.nm.toList)).Nodup↔(l.map (·.nm.toList)).Nodup∧¬ v.nm.toList∈l.map (·.nm.toList):=by
  rw[List.map_append,Yf];constructor
  ·rintro⟨h1,_,h3⟩;exact⟨h1,fun hm=>h3 _ hm _ (by simp) rfl⟩
  ·rintro⟨h1,h2⟩;exact⟨h1,by simp,fun a ha b hb e=>by simp at hb;subst hb;subst e;exact h2 ha⟩
 have hs:=h.size;refine⟨fun s=>?_,?_,?_,fun hn i u hu z=>?_⟩
 ·rw[List.any_append];by_cases e:v.nm.data.toList=s
  ·subst e;rw[show (Lit.string v.nm.data.toList)=Cr v from rfl,Maps.has_put_same hT.isMap hk];simp
  ·rw[Maps.has_put_other (fun e2=>e (by unfold Cr at e2;injection e2 with e2;exact e2.symm)),h.has];simp[e]
 ·rw[Maps.size_put hT,ZE];split<;>simp<;>omega
 ·rw[Maps.size_put hT,ZE,hnd,<-hc,<-h.full]
  cases hh:Maps.has D (Cr v)<;>simp<;>omega
 ·obtain⟨h1,h2⟩:=hnd.1 hn;by_cases hi:i<l.length
  ·rw[ZD hi] at hu
   have hf:Cr u≠Cr v:=fun e=>h2 (by
    unfold Cr at e;injection e with e;exact ZT.2 ⟨u,Zc hu,by rw[Zu,Zu,e]⟩)
   rw[Maps.atKey_put_other hf];exact h.val h1 i u hu z
  ·rw[Zv (by omega)] at hu
   have he:i=l.length:=by
    have:=(Zb.1 hu).1
    simp at this;omega
   subst he;simp at hu;subst hu;rw[Maps.atKey_put_same hT.isMap hk]
end
section
open Go Go.RowKit Go.BigFrame
open Go.Maps (Keyed)
variable{b:Nat}{w:World}
structure Lo (B:Nat)(w:World)(b o:Nat)(x:Vo):Prop where
 id:w.cell? ⟨b,o,none⟩=some (.int .i64 x.id)
 nm:w.cell? ⟨b,o+1,none⟩=some (.string x.nm)
 its:∃ qa qn qc,w.cell? ⟨b,o+3,none⟩=some (.slice qa qn qc)∧Bw B w qa qn x.its∧Hd B qa qn qc
theorem Lo.below {B:Nat}{w':World}{o:Nat}{x:Vo}(h:Lo B w b o x)(hb:Below w.heap.size w w'):Lo B w' b o x:=by
 obtain⟨h1,h2,qa,qn,qc,h3,h4,h5⟩:=h;exact⟨Ab hb h1,Ab hb h2,qa,qn,qc,Ab hb h3,h4.below hb,h5⟩
end
section
open Go Go.RowKit Go.BigFrame Tryz
variable{b n:Nat}{w w':World}
theorem CD.below {L:List Ct}(h:CD w b n L)(hb:Below w.heap.size w w'):CD w' b n L:=h.kept (row:=none) ⟨hb.os,hb.tape,hb.output,hb.size,fun k hk _=>hb.block k hk⟩ (by simp)
end
section
open Go Go.RowKit Go.BigFrame Tryz
variable{r:IR}{y:It}{rows:List IR}{l:List It}{B k:Nat}{w:World}
theorem A3.set (k:Nat)(h:A3 B w rows l)(h':Ec B w r y):A3 B w (rows.set k r) (l.set k y):=⟨by simp[h.len],mB_ h.at' h'⟩
end
section
open Go Go.RowKit Go.BigFrame Tryz
variable{e:List Ex}
theorem hR_:∀ {l:List It} {q:Option It},igo e q l=true->∀ x∈l,nameB x.nm=true
 |[],_,_,x,hx=>by simp at hx
 |y::r,q,h,x,hx=>by
  simp only[igo,Zf] at h;rcases Zn.1 hx with rfl | hx
  ·exact h.1.1.1
  ·exact hR_ h.2 x hx
end
section
open Go Go.RowKit Go.BigFrame
variable{rows:List VR}{B i vb vc vn:Nat}{r:VR}{y:Vo}{w:World}
theorem CE.at (V:CE B w r y)(RV:Ad vrs 4 80 w B (some ⟨vb,0,none⟩) vn vc rows)(hi:rows[i]?=some r):Lo B w vb (i*4) y:=by
 obtain⟨e1,e2,e3,rs,R,T⟩:=V;have c0:=RV.cellAt (j:=0) hi rfl;have c1:=RV.cellAt (j:=1) hi rfl;have c3:=RV.cellAt (j:=3) hi rfl;rw[e1] at c0;rw[e2] at c1;exact⟨c0,c1,r.pa,r.pn,r.pc,c3,T.rows.its R,R.hd⟩
end
section
open Go Go.RowKit Go.BigFrame Tryz
theorem kX_ (a b:ByteArray):(a++b).size=a.size+b.size:=ByteArray.size_append
end
end Go.Proofs.YtkiceokhlceciaaGreatDoor
